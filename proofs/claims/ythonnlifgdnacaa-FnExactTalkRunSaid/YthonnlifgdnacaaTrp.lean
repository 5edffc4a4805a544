/- A run of acts, by the program. -/
import Derived.Test.YthonnlifgdnacaaScr
import Derived.Test.YthonnlifgdnacaaTru
namespace Go.Proofs.Ythonnlifgdnacaa
open Go.RowKit
set_option maxHeartbeats 4000000
set_option maxRecDepth 20000
set_option linter.unusedVariables false
theorem make72 (w : World) : (Instr.makeSlice 72 (.int .i64 2) (.int .i64 2)).run Try.prog w = .ok (.slice (some ⟨w.heap.size, 0, none⟩) 2 2) (w.alloc (.cells #[.slice none 0 0, .int .i64 0, .int .i64 0, .slice none 0 0, .slice none 0 0, .int .i64 0, .int .i64 0, .slice none 0 0] 33)) := by
  obtain ⟨k0, hk0, kz0, kz1, kz2⟩ := info_parts info33
  have h := run_makeSlice w (P := Try.prog) 72 33 k0 _ Try.underlying72 hk0 kz0 .i64 .i64 2 2 (by omega) (Int.le_refl _) (by rw [kz1]; omega) (by rw [kz2]; omega) (by omega)
  rw [kz1] at h
  have hm : madeCells (Value.agg #[.slice none 0 0, .int .i64 0, .int .i64 0, .slice none 0 0]).cells (Int.toNat 2 * 4) = #[.slice none 0 0, .int .i64 0, .int .i64 0, .slice none 0 0, .slice none 0 0, .int .i64 0, .int .i64 0, .slice none 0 0] := by kernel_rfl
  rw [hm] at h
  exact h
/-- ints in a block of their own -/
def intO (xs : List Int) : Obj := .cells (ivs xs).toArray 3 (0, 0)
theorem make26 (n : Nat) (hn : n ≤ 2097152) (w : World) : (Instr.makeSlice 26 (.int .i64 (n : Int)) (.int .i64 (n : Int))).run Try.prog w = .ok (.slice (some ⟨w.heap.size, 0, none⟩) n n) (w.alloc (intO (List.replicate n 0))) := by
  obtain ⟨k0, hk0, kz0, kz1, kz2⟩ := info_parts info3
  have h := run_makeSlice w (P := Try.prog) 26 3 k0 (.int .i64 0) Try.underlying26 hk0 kz0 .i64 .i64 (n : Int) (n : Int) (by omega) (Int.le_refl _) (by rw [kz1]; omega) (by rw [kz2]; omega) (by omega)
  rw [kz1, Int.toNat_natCast, Nat.mul_one] at h
  rw [h, intO]
  congr 3
  apply Array.ext_getElem?
  intro i
  by_cases hi : i < n
  · simp [madeCells, Value.cells, hi, Nat.mod_one, ivs]
  · simp [madeCells, Value.cells, hi, ivs]
theorem TwO.zero {W : World} {gg : Nat} (h : W.heap[gg]? = some (.cells #[.slice none 0 0, .int .i64 0, .int .i64 0, .slice none 0 0, .slice none 0 0, .int .i64 0, .int .i64 0, .slice none 0 0] 33 (0, 0))) : TwO W.heap.size gg tw0 W :=
  ⟨_, _, _, _, W.heap.size, W.heap.size, W.heap.size, W.heap.size, h, own_noP _ _ _, own_noP _ _ _, (Array.getElem?_eq_some_iff.1 h).1, Nat.le_refl _, Nat.le_refl _, Nat.le_refl _, Nat.le_refl _, Or.inl (Nat.le_refl _)⟩
theorem merge4 {G : Nat → Nat → World → Prop} {X : Prop} (F : Nat → Nat → World → Prop) (h : (∀ a b c, F a b c → G a b c) → X) (m : ∀ a b c, F a b c → G a b c) : X := h m
theorem few_of {p : Pe} (h : peOK p = true) : peFew p := ok_few' h
/-- codes so far, the others nought -/
def cdJ (al : List Ta) (j : Nat) : List Int := codesF (al.take j) tw0 ++ List.replicate (al.length - j) 0
theorem cdJ_zero (al : List Ta) : cdJ al 0 = List.replicate al.length 0 := by unfold cdJ; simp [codesF]
theorem cdJ_all (al : List Ta) : cdJ al al.length = codesF al tw0 := by unfold cdJ; simp
theorem cdJ_len (al : List Ta) (j : Nat) (h : j ≤ al.length) : (cdJ al j).length = al.length := by
  unfold cdJ; rw [List.length_append, codesF_len, List.length_replicate, List.length_take]; omega
theorem cdJ_step (al : List Ta) (j : Nat) (h : j < al.length) : (cdJ al j).set j (stepF (runF (al.take j) tw0) (al.getD j ta0)).2 = cdJ al (j + 1) := by
  unfold cdJ
  rw [take_snoc h, codesF_snoc]
  have e : (codesF (al.take j) tw0).length = j := by rw [codesF_len, List.length_take]; omega
  rw [List.set_append_right _ _ (by omega), e, Nat.sub_self, List.append_assoc]
  congr 1
  rw [show al.length - j = (al.length - (j + 1)) + 1 by omega, List.replicate_succ]
  rfl
theorem row_int {W : World} {b j : Nat} {xs : List Int} (h : W.heap[b]? = some (intO xs)) (hj : j < xs.length) : ∃ x, W.cell? ⟨b, j, none⟩ = some (.int .i64 x) := by
  refine ⟨xs[j], ?_⟩
  unfold intO at h
  rw [row_cell h]
  simp [ivs, hj]
theorem row_intset {W : World} {b j : Nat} {xs : List Int} (h : W.heap[b]? = some (intO xs)) (x : Int) : (W.setCell ⟨b, j, none⟩ (.int .i64 x)).heap[b]? = some (intO (xs.set j x)) := by
  unfold intO at h
  rw [row_set (i := j) (v := .int .i64 x) h]
  unfold intO
  congr 2
  apply Array.ext'
  simp [ivs, List.map_set]
/-- what a run of the program answers -/
def trO (w w' : World) (lv cv : Value) (al : List Ta) : Prop :=
  (tkC al = 0 → ∃ g cb base, lv = .slice (some ⟨g, 0, none⟩) 2 2 ∧ cv = .slice (some ⟨cb, 0, none⟩) al.length al.length ∧ w.heap.size ≤ g ∧ w.heap.size ≤ cb ∧ g ≠ cb ∧ cb < base ∧ TwO base g (runF al tw0) w' ∧ w'.heap[cb]? = some (intO (codesF al tw0))) ∧
  (tkC al ≠ 0 → lv = .slice none 0 0 ∧ cv = .slice none 0 0)
theorem tkC_zero {al : List Ta} (h : tkC al = 0) : al.length ≤ 120 ∧ ∀ a ∈ al, a.t.size ≤ 65536 := by
  unfold tkC at h
  split at h
  · cases h
  split at h
  · cases h
  split at h
  · cases h
  rename_i h1 h2 h3
  refine ⟨by omega, fun a ha => ?_⟩
  apply Nat.le_of_not_lt
  intro hc
  apply h3
  rw [List.any_eq_true]
  exact ⟨a, ha, decide_eq_true hc⟩
theorem run12 (v : Value) (al : List Ta) (w : World) (hv : actsV w v al) (hl : al.length ≤ maxLen) (ht : ∀ a ∈ al, a.t.size ≤ maxLen) :
    Calls Try.prog 12 #[v] w fun e w' => ∃ lv cv, e = .returned (.tuple #[lv, cv, .int .i64 (tkC al)]) ∧ trO w w' lv cv al ∧ Below w.heap.size w w' := by
  have K := hide (script46 v al w hv hl ht)
  have HV := hide hv
  obtain ⟨A, cap, rfl⟩ := hv.slice
  by_cases hc : tkC al = 0
  · obtain ⟨hn, htt⟩ := tkC_zero hc
    rw [hc] at K
    have HC := hide hc
    have HT := hide htt
    obtain ⟨n, hnn⟩ : ∃ n, n = al.length := ⟨_, rfl⟩
    rw [hc]
    rw [← hnn] at K HV ⊢
    have HN := hide hnn
    have z1 : (n : Int) ≤ 120 := by omega
    clear hv hl ht hc htt hn hnn
    go_enter Try.func12, Try.ntmps12
    go_wp2_with (go_at_call 46; refine (unhide K).mono ?_; rintro e w1 ⟨rfl, hb1⟩; have HB := hide hb1; have HV1 := hide ((unhide HV).below hb1); clear hb1 K)
    refine wp_region_held (S := fun _ => True) (by kernel_rfl) ?_
    have s2 : Below w1.heap.size w1 { w1 with drawn := w1.drawn + 1 } := below_drewN (Below.refl _ _) 1
    obtain ⟨w2, hw2⟩ : ∃ x, x = ({ w1 with drawn := w1.drawn + 1 } : World) := ⟨_, rfl⟩
    rw [← hw2] at s2 ⊢
    clear hw2
    have HN2 : Hid (n ≤ 2097152) := hide (by omega)
    refine wpAnyH_take (i := 1) (oi := { dst := some 16, op := Op.move (Operand.tmp 0), type := 23, pos := "l15_talk.go:191", after := #[], guard := none }) (v := ?_) rfl (by kernel_rfl) (by kernel_rfl) (by kernel_rfl) (fun _ _ _ h => h) (Or.inl ⟨by rfl, ?_⟩) trivial ?_
    rotate_left
    · intro W hSw
      go_simp
      try with_reducible rfl
    simp only [Act.put, List.setIfInBounds_toArray, List.set_cons_zero, List.set_cons_succ]
    refine wpAnyH_take (i := 2) (oi := { dst := some 17, op := Op.call { callee := Callee.builtin Builtin.len, args := #[Operand.tmp 16], argTypes := #[23] }, type := 3, pos := "l15_talk.go:191", after := #[{ on := 1, ground := Ground.data }], guard := none }) (v := ?_) rfl (by kernel_rfl) (by kernel_rfl) (by kernel_rfl) (fun _ _ _ h => h) (Or.inl ⟨by rfl, ?_⟩) trivial ?_
    rotate_left
    · intro W hSw
      go_simp
      try with_reducible rfl
    simp only [Act.put, List.setIfInBounds_toArray, List.set_cons_zero, List.set_cons_succ]
    apply merge4 (fun (gg : Nat) (cb : Nat) (W : World) => w.heap.size ≤ gg ∧ w.heap.size ≤ cb ∧ gg ≠ cb ∧ Hid (W.heap[gg]? = some (.cells #[.slice none 0 0, .int .i64 0, .int .i64 0, .slice none 0 0, .slice none 0 0, .int .i64 0, .int .i64 0, .slice none 0 0] 33 (0, 0))) ∧ Hid (W.heap[cb]? = some (intO (List.replicate n 0))) ∧ Hid (Below w1.heap.size w1 W))
    case h =>
      intro main
      refine wpAnyH_two (i := 0) (j := 3) (by kernel_rfl) ?_ ?_
      · refine wpOp_step (o := { dst := some 15, op := Op.makeSlice 72 (Operand.const (Value.int IntKind.i64 2)) (Operand.const (Value.int IntKind.i64 2)), type := 72, pos := "l15_talk.go:191", after := #[], guard := none }) rfl fun K' hK => step_valueW (by rfl) (.slice (some ⟨w2.heap.size, 0, none⟩) 2 2) (w2.alloc (.cells #[.slice none 0 0, .int .i64 0, .int .i64 0, .slice none 0 0, .slice none 0 0, .int .i64 0, .int .i64 0, .slice none 0 0] 33)) (by have := make72 w2; go_simp) ?_
        refine hK _ _ ⟨trivial, ?_⟩
        simp only [Act.put, List.setIfInBounds_toArray, List.set_cons_zero, List.set_cons_succ]
        refine wpAnyH_take (i := 4) (oi := { dst := some 6, op := Op.assign (Operand.tmp 15), type := 72, pos := "l15_talk.go:191", after := #[{ on := 0, ground := Ground.data }, { on := 0, ground := Ground.phase }, { on := 1, ground := Ground.textOnly Departure.lateStores }, { on := 2, ground := Ground.textOnly Departure.lateStoresUnsure }, { on := 3, ground := Ground.textOnly Departure.lateStoresUnsure }], guard := none }) (v := ?_) rfl (by kernel_rfl) (by kernel_rfl) (by kernel_rfl) (fun _ _ _ h => h) (Or.inl ⟨by rfl, ?_⟩) trivial ?_
        rotate_left
        · intro W hSw
          go_simp
          try with_reducible rfl
        simp only [Act.put, List.setIfInBounds_toArray, List.set_cons_zero, List.set_cons_succ]
        refine wpAnyH_one (i := 3) (by kernel_rfl) ?_
        refine wpOp_step (o := { dst := some 18, op := Op.makeSlice 26 (Operand.tmp 17) (Operand.tmp 17), type := 26, pos := "l15_talk.go:191", after := #[{ on := 2, ground := Ground.data }, { on := 2, ground := Ground.data }], guard := none }) rfl fun K' hK => step_valueW (by rfl) (.slice (some ⟨w2.heap.size + 1, 0, none⟩) n n) ((w2.alloc (.cells #[.slice none 0 0, .int .i64 0, .int .i64 0, .slice none 0 0, .slice none 0 0, .int .i64 0, .int .i64 0, .slice none 0 0] 33)).alloc (intO (List.replicate n 0))) (by have := make26 n (unhide HN2) (w2.alloc (.cells #[.slice none 0 0, .int .i64 0, .int .i64 0, .slice none 0 0, .slice none 0 0, .int .i64 0, .int .i64 0, .slice none 0 0] 33)); go_simp) ?_
        refine hK _ _ ⟨trivial, ?_⟩
        simp only [Act.put, List.setIfInBounds_toArray, List.set_cons_zero, List.set_cons_succ]
        refine wpAnyH_one (i := 5) (by kernel_rfl) ?_
        refine wpOp_step (o := { dst := some 7, op := Op.assign (Operand.tmp 18), type := 26, pos := "l15_talk.go:191", after := #[{ on := 3, ground := Ground.data }, { on := 4, ground := Ground.chain }, { on := 0, ground := Ground.phase }, { on := 1, ground := Ground.phase }, { on := 2, ground := Ground.phase }, { on := 3, ground := Ground.phase }, { on := 4, ground := Ground.phase }], guard := none }) rfl fun K' hK => step_valueW (by rfl) (.slice (some ⟨w2.heap.size + 1, 0, none⟩) n n) ((w2.alloc (.cells #[.slice none 0 0, .int .i64 0, .int .i64 0, .slice none 0 0, .slice none 0 0, .int .i64 0, .int .i64 0, .slice none 0 0] 33)).alloc (intO (List.replicate n 0))) (by go_simp) ?_
        refine hK _ _ ⟨trivial, ?_⟩
        simp only [Act.put, List.setIfInBounds_toArray, List.set_cons_zero, List.set_cons_succ]
        refine wpAnyH_done (by kernel_rfl) ?_ _
        have FF : w.heap.size ≤ w2.heap.size ∧ w.heap.size ≤ (w2.heap.size + 1) ∧ w2.heap.size ≠ (w2.heap.size + 1) ∧ Hid (((w2.alloc (.cells #[.slice none 0 0, .int .i64 0, .int .i64 0, .slice none 0 0, .slice none 0 0, .int .i64 0, .int .i64 0, .slice none 0 0] 33)).alloc (intO (List.replicate n 0))).heap[w2.heap.size]? = some (.cells #[.slice none 0 0, .int .i64 0, .int .i64 0, .slice none 0 0, .slice none 0 0, .int .i64 0, .int .i64 0, .slice none 0 0] 33 (0, 0))) ∧ Hid (((w2.alloc (.cells #[.slice none 0 0, .int .i64 0, .int .i64 0, .slice none 0 0, .slice none 0 0, .int .i64 0, .int .i64 0, .slice none 0 0] 33)).alloc (intO (List.replicate n 0))).heap[(w2.heap.size + 1)]? = some (intO (List.replicate n 0))) ∧ Hid (Below w1.heap.size w1 ((w2.alloc (.cells #[.slice none 0 0, .int .i64 0, .int .i64 0, .slice none 0 0, .slice none 0 0, .int .i64 0, .int .i64 0, .slice none 0 0] 33)).alloc (intO (List.replicate n 0)))) := ⟨by have := (unhide HB).size; have := s2.size; omega, by have := (unhide HB).size; have := s2.size; omega, by omega, hide (((bl_al (Below.refl _ _)).block _ (by simp)).trans (heap_alloc_new w2 _)), hide (heap_at _ _ _ (by simp)), hide (bl_al (bl_al s2))⟩
        generalize ((w2.alloc (.cells #[.slice none 0 0, .int .i64 0, .int .i64 0, .slice none 0 0, .slice none 0 0, .int .i64 0, .int .i64 0, .slice none 0 0] 33)).alloc (intO (List.replicate n 0))) = W at FF ⊢
        generalize w2.heap.size + 1 = xb at FF ⊢
        generalize w2.heap.size = xa at FF ⊢
        exact main xa xb W FF
      · refine wpOp_step (o := { dst := some 18, op := Op.makeSlice 26 (Operand.tmp 17) (Operand.tmp 17), type := 26, pos := "l15_talk.go:191", after := #[{ on := 2, ground := Ground.data }, { on := 2, ground := Ground.data }], guard := none }) rfl fun K' hK => step_valueW (by rfl) (.slice (some ⟨w2.heap.size, 0, none⟩) n n) (w2.alloc (intO (List.replicate n 0))) (by have := make26 n (unhide HN2) w2; go_simp) ?_
        refine hK _ _ ⟨trivial, ?_⟩
        simp only [Act.put, List.setIfInBounds_toArray, List.set_cons_zero, List.set_cons_succ]
        refine wpAnyH_one (i := 0) (by kernel_rfl) ?_
        refine wpOp_step (o := { dst := some 15, op := Op.makeSlice 72 (Operand.const (Value.int IntKind.i64 2)) (Operand.const (Value.int IntKind.i64 2)), type := 72, pos := "l15_talk.go:191", after := #[], guard := none }) rfl fun K' hK => step_valueW (by rfl) (.slice (some ⟨w2.heap.size + 1, 0, none⟩) 2 2) ((w2.alloc (intO (List.replicate n 0))).alloc (.cells #[.slice none 0 0, .int .i64 0, .int .i64 0, .slice none 0 0, .slice none 0 0, .int .i64 0, .int .i64 0, .slice none 0 0] 33)) (by have := make72 (w2.alloc (intO (List.replicate n 0))); go_simp) ?_
        refine hK _ _ ⟨trivial, ?_⟩
        simp only [Act.put, List.setIfInBounds_toArray, List.set_cons_zero, List.set_cons_succ]
        refine wpAnyH_one (i := 4) (by kernel_rfl) ?_
        refine wpOp_step (o := { dst := some 6, op := Op.assign (Operand.tmp 15), type := 72, pos := "l15_talk.go:191", after := #[{ on := 0, ground := Ground.data }, { on := 0, ground := Ground.phase }, { on := 1, ground := Ground.textOnly Departure.lateStores }, { on := 2, ground := Ground.textOnly Departure.lateStoresUnsure }, { on := 3, ground := Ground.textOnly Departure.lateStoresUnsure }], guard := none }) rfl fun K' hK => step_valueW (by rfl) (.slice (some ⟨w2.heap.size + 1, 0, none⟩) 2 2) ((w2.alloc (intO (List.replicate n 0))).alloc (.cells #[.slice none 0 0, .int .i64 0, .int .i64 0, .slice none 0 0, .slice none 0 0, .int .i64 0, .int .i64 0, .slice none 0 0] 33)) (by go_simp) ?_
        refine hK _ _ ⟨trivial, ?_⟩
        simp only [Act.put, List.setIfInBounds_toArray, List.set_cons_zero, List.set_cons_succ]
        refine wpAnyH_one (i := 5) (by kernel_rfl) ?_
        refine wpOp_step (o := { dst := some 7, op := Op.assign (Operand.tmp 18), type := 26, pos := "l15_talk.go:191", after := #[{ on := 3, ground := Ground.data }, { on := 4, ground := Ground.chain }, { on := 0, ground := Ground.phase }, { on := 1, ground := Ground.phase }, { on := 2, ground := Ground.phase }, { on := 3, ground := Ground.phase }, { on := 4, ground := Ground.phase }], guard := none }) rfl fun K' hK => step_valueW (by rfl) (.slice (some ⟨w2.heap.size, 0, none⟩) n n) ((w2.alloc (intO (List.replicate n 0))).alloc (.cells #[.slice none 0 0, .int .i64 0, .int .i64 0, .slice none 0 0, .slice none 0 0, .int .i64 0, .int .i64 0, .slice none 0 0] 33)) (by go_simp) ?_
        refine hK _ _ ⟨trivial, ?_⟩
        simp only [Act.put, List.setIfInBounds_toArray, List.set_cons_zero, List.set_cons_succ]
        refine wpAnyH_done (by kernel_rfl) ?_ _
        have FF : w.heap.size ≤ (w2.heap.size + 1) ∧ w.heap.size ≤ w2.heap.size ∧ (w2.heap.size + 1) ≠ w2.heap.size ∧ Hid (((w2.alloc (intO (List.replicate n 0))).alloc (.cells #[.slice none 0 0, .int .i64 0, .int .i64 0, .slice none 0 0, .slice none 0 0, .int .i64 0, .int .i64 0, .slice none 0 0] 33)).heap[(w2.heap.size + 1)]? = some (.cells #[.slice none 0 0, .int .i64 0, .int .i64 0, .slice none 0 0, .slice none 0 0, .int .i64 0, .int .i64 0, .slice none 0 0] 33 (0, 0))) ∧ Hid (((w2.alloc (intO (List.replicate n 0))).alloc (.cells #[.slice none 0 0, .int .i64 0, .int .i64 0, .slice none 0 0, .slice none 0 0, .int .i64 0, .int .i64 0, .slice none 0 0] 33)).heap[w2.heap.size]? = some (intO (List.replicate n 0))) ∧ Hid (Below w1.heap.size w1 ((w2.alloc (intO (List.replicate n 0))).alloc (.cells #[.slice none 0 0, .int .i64 0, .int .i64 0, .slice none 0 0, .slice none 0 0, .int .i64 0, .int .i64 0, .slice none 0 0] 33))) := ⟨by have := (unhide HB).size; have := s2.size; omega, by have := (unhide HB).size; have := s2.size; omega, by omega, hide (heap_at _ _ _ (by simp)), hide (((bl_al (Below.refl _ _)).block _ (by simp)).trans (heap_alloc_new w2 _)), hide (bl_al (bl_al s2))⟩
        generalize ((w2.alloc (intO (List.replicate n 0))).alloc (.cells #[.slice none 0 0, .int .i64 0, .int .i64 0, .slice none 0 0, .slice none 0 0, .int .i64 0, .int .i64 0, .slice none 0 0] 33)) = W at FF ⊢
        generalize w2.heap.size + 1 = xb at FF ⊢
        generalize w2.heap.size = xa at FF ⊢
        exact main xb xa W FF
    case m =>
      intro gg cb W hF
      obtain ⟨hg, hcb, hne, HG, HCB, HW⟩ := hF
      have HBW := hide (bl_st (unhide HW) (unhide HB))
      have HT0 := hide (TwO.zero (unhide HG))
      have HVW := hide ((unhide HV1).below (unhide HW))
      have HLT : Hid (cb < W.heap.size) := hide (Array.getElem?_eq_some_iff.1 (unhide HCB)).1
      have HCB : Hid (W.heap[cb]? = some (intO (cdJ al 0))) := hide (by rw [cdJ_zero, ← unhide HN]; exact unhide HCB)
      have HGG := hide (And.intro hg (And.intro hcb hne))
      obtain ⟨base, hbase⟩ : ∃ b, b = W.heap.size := ⟨_, rfl⟩
      have HBS := hide hbase
      rw [← hbase] at HT0 HLT
      clear HG HV1 HW HN2 hg hcb hne s2 hbase
      go_wp2_with fail
      go_loopw [21] (fun i wr => ∃ j : Nat, j ≤ n ∧ i = .int .i64 j ∧ TwO base gg (runF (al.take j) tw0) wr ∧ wr.heap[cb]? = some (intO (cdJ al j)) ∧ Below w.heap.size w wr ∧ actsV wr (.slice A n cap) al ∧ base ≤ wr.heap.size) (fun i _ => n - (intOf i).toNat)
      case atStart => exact ⟨0, by omega, rfl, unhide HT0, unhide HCB, unhide HBW, unhide HVW, by rw [unhide HBS]; exact Nat.le_refl _⟩
      case round =>
        obtain ⟨j, hj, rfl, ht, hcr, hb, hv, hbs⟩ := hrel
        have HT2 := hide ht
        have HCR := hide hcr
        have HB2 := hide hb
        have HV2 := hide hv
        have HS2 := hide hbs
        clear ht hcr hb hbs HT0 HCB HBW HVW
        rcases Nat.lt_or_ge j n with hlt | hge
        · have hlen : j < al.length := by have := unhide HN; omega
          have q1 : (j : Int) < (n : Int) := by omega
          have q0 : (0 : Int) ≤ (j : Int) := by omega
          obtain ⟨A', cap', hsl, hcc⟩ := hv
          injection hsl with hs1 hs2 hs3
          subst hs1 hs3
          obtain ⟨b, off, hA, hbl, hac⟩ := hcc (by omega)
          subst hA
          obtain ⟨c0, c1, c2, c3, c4⟩ := hac j hlen
          have ok := run_ok (al.take j)
          have hat : (al.getD j ta0).t.size ≤ 65536 := unhide HT _ (by rw [List.getD_eq_getElem?_getD, List.getElem?_eq_getElem hlen]; simp)
          have KD := hide (fun W2 (h2 : TwO base gg (runF (al.take j) tw0) W2) (hB2 : base ≤ W2.heap.size) => do47 base gg _ (al.getD j ta0) W2 h2 hB2 ok.1 ok.2 (few_of ok.1) (few_of ok.2) hat)
          have HRN := hide (show runF (al.take (j + 1)) tw0 = (stepF (runF (al.take j) tw0) (al.getD j ta0)).1 by rw [take_snoc hlen, runF_snoc])
          have HCN := hide (cdJ_step al j hlen)
          have HCL := hide (cdJ_len al j (by omega))
          have HLN := hide hlen
          generalize stepF (runF (al.take j) tw0) (al.getD j ta0) = st at *
          generalize al.getD j ta0 = a at *
          obtain ⟨k, wh, tt, la, lb⟩ := a
          obtain ⟨zz, cd⟩ := st
          dsimp only at *
          have HX := hide (Below.refl wr.heap.size wr |> bl_al (o := .cells #[.int .i64 k, .int .i64 wh, .string tt, .bool la, .bool lb] 35))
          have HLJ := hide hlt
          clear hac hcc hlen hj ok hat hs2 hlt
          go_wp2_with (go_at_call 47; refine (unhide KD _ ((unhide HT2).below (unhide HX)) (Nat.le_trans (unhide HS2) (unhide HX).size)).mono ?_; rintro e w5 ⟨rfl, ht5, hl5⟩; have lgg := unhide HGG; have HT5 := hide ht5; have RC := (hl5.block _ (by have := (Array.getElem?_eq_some_iff.1 (unhide HCR)).1; simp; omega) (fun e => lgg.2.2 e.symm)).trans (((unhide HX).block _ (Array.getElem?_eq_some_iff.1 (unhide HCR)).1).trans (unhide HCR)); have HRC := hide RC; obtain ⟨xx, cx⟩ := row_int RC (by rw [unhide HCL]; exact unhide HLN); have fx : w5.frozen? ⟨cb, j, none⟩ = false := row_free RC; have HL5 := hide hl5; clear RC ht5 hl5 lgg)
          have lgg := unhide HGG
          have L6 := lone_setCell cb j w5 (.int .i64 cd)
          have hb5 : Below w.heap.size w w5 := (unhide HL5).below (bl_al (unhide HB2)) lgg.1 (by have := (unhide HB2).size; simp; omega)
          have hb6 : Below w.heap.size w (w5.setCell ⟨cb, j, none⟩ (.int .i64 cd)) := bl_set hb5 lgg.2.1
          refine ⟨?_, ?_⟩
          · refine ⟨j + 1, by have := unhide HLJ; omega, ?_, ?_, ?_, hb6, (unhide HV).below hb6, ?_⟩
            · go_num
            · rw [unhide HRN]; exact (unhide HT5).lone L6 lgg.2.2 (unhide HLT)
            · rw [← unhide HCN]; exact row_intset (unhide HRC) cd
            · rw [size_set]; have := (unhide HL5).size; have := (unhide HX).size; have := unhide HS2; omega
          · have := unhide HLJ; simp [intOf]; omega
        · have q1 : (n : Int) ≤ (j : Int) := by omega
          obtain rfl : j = al.length := by have := unhide HN; omega
          clear hv hj hge
          go_wp2
          refine bodyPost_ret (results_tmp3 rfl _ _ _) rfl ?_
          refine ⟨_, _, rfl, ⟨fun _ => ⟨gg, cb, base, rfl, by have e := unhide HN; subst e; rfl, (unhide HGG).1, (unhide HGG).2.1, (unhide HGG).2.2, unhide HLT, ?_, ?_⟩, fun h => absurd (unhide HC) h⟩, unhide HB2⟩
          · have := unhide HT2; rwa [List.take_length] at this
          · rw [← cdJ_all]; exact unhide HCR
  · have q0 : (tkC al == 0) = false := by simpa using hc
    have HC := hide hc
    generalize hcc : tkC al = c at *
    clear hv hl ht
    go_enter Try.func12, Try.ntmps12
    go_wp2_with (go_at_call 46; refine (unhide K).mono ?_; rintro e w1 ⟨rfl, hb1⟩)
    refine bodyPost_ret (results_tmp3 rfl _ _ _) rfl ?_
    exact ⟨_, _, rfl, ⟨fun h => absurd (hcc.symm.trans h) (unhide HC), fun _ => ⟨rfl, rfl⟩⟩, hb1⟩
end Go.Proofs.Ythonnlifgdnacaa
