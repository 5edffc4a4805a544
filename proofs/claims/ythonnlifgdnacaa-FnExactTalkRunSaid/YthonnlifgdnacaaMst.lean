/- Texts that are marked from any number on, and held. -/
import Derived.Test.YthonnlifgdnacaaStr
import Derived.Test.YthonnlifgdnacaaApl
namespace Go.Proofs.Ythonnlifgdnacaa
open Go.RowKit
set_option maxHeartbeats 4000000
set_option maxRecDepth 20000
def marksK (K n : Nat) : List ByteArray := (List.range n).map fun i => mkT (K + i)
theorem marksK_len (K n : Nat) : (marksK K n).length = n := by simp [marksK]
theorem marksK_at (K n i : Nat) (h : i < n) : (marksK K n).getD i noS = mkT (K + i) := by
  rw [List.getD_eq_getElem?_getD, marksK, List.getElem?_map, List.getElem?_range h]; rfl
theorem mark65 (lo hi : Nat) (v : Value) (ts : List ByteArray) (K : Nat) (w : World) (hv : ownS lo hi w v ts) (hn : ts.length ≤ 2097152) (hK : K ≤ 2097152) :
    Calls Try.prog 65 #[v, .int .i64 (K : Int)] w fun e w' => e = .returned (.int .i64 ((K : Int) + (ts.length : Int))) ∧ ownS lo hi w' v (marksK K ts.length) ∧ TouchS v w w' := by
  obtain ⟨rfl, rfl⟩ | ⟨g, cap, rest, rfl, hg, hh, hc, hcp⟩ := hv
  · go_enter Try.func65, Try.ntmps65
    go_wp2
    refine wp_loop_rounds 1 ?_
    rw [rounds_succ]; go_wp2
    go_ret
    exact ⟨by simp, .inl ⟨rfl, rfl⟩, ⟨rfl, rfl, rfl, Nat.le_refl _, fun _ _ _ => rfl⟩⟩
  · obtain ⟨n, hnx⟩ : ∃ n, n = ts.length := ⟨_, rfl⟩
    rw [← hnx] at hn hcp ⊢
    have HCP := hide hcp
    have HN := hide hnx
    have HG := hide hg
    have HH := hide hh
    have HC : Hid (w.heap[g]? = some (strO (mixG (marksK K n) ts 0) rest)) := hide (by rw [mixG_zero]; exact hc)
    have k0 : (0 : Int) ≤ (K : Int) := by omega
    have k1 : (K : Int) ≤ 2097152 := by omega
    clear hc hnx hg hcp hh
    go_enter Try.func65, Try.ntmps65
    go_wp2
    go_loopw [1, 5] (fun k i wr => ∃ j : Nat, j ≤ n ∧ i = .int .i64 j ∧ k = .int .i64 ((K : Int) + (j : Int)) ∧ wr.heap[g]? = some (strO (mixG (marksK K n) ts j) rest) ∧ Lone g w wr) (fun _ i _ => n - (intOf i).toNat)
    case atStart => exact ⟨0, by omega, rfl, by simp, unhide HC, Lone.refl _ _⟩
    case round =>
      obtain ⟨j, hj, rfl, rfl, ho, hlo⟩ := hrel
      by_cases hlt : j < n
      · have q1 : (j : Int) < (n : Int) := by omega
        have q0 : (0 : Int) ≤ (j : Int) := by omega
        have q2 : (n : Int) ≤ 2097152 := by omega
        have hm := hide (mt38 (K + j) (by omega) wr)
        have eK : ((K + j : Nat) : Int) = (K : Int) + (j : Int) := by omega
        obtain ⟨z, hz⟩ : ∃ z : Int, (K : Int) + (j : Int) = z := ⟨_, rfl⟩
        rw [eK, hz] at hm
        rw [hz]
        have z0 : 0 ≤ z := by omega
        have z1 : z ≤ 4194304 := by omega
        have HZ := hide hz
        have HJ := hide hlt
        have HO := hide ho
        have HL := hide hlo
        clear hlt hj ho hlo HC eK hz
        go_wp2_with fail
        refine (unhide hm).mono ?_
        rintro e w1 ⟨rfl, b1⟩
        have ho := (b1.block g (Array.getElem?_eq_some_iff.1 (unhide HO)).1).trans (unhide HO)
        have hl : (mixG (marksK K n) ts j).length = n := by rw [mixG_len _ _ _ (by rw [marksK_len]; exact unhide HN)]; exact (unhide HN).symm
        have p1 := cell_strO ho j (by have := unhide HJ; omega)
        have p2 := free_strO ho j
        have p3 := set_strO ho j (mkT (K + j)) (by have := unhide HJ; omega)
        rw [← marksK_at K n j (unhide HJ), mixG_succ _ _ _ _ (by rw [marksK_len]; exact unhide HN) (by rw [← unhide HN]; exact unhide HJ), marksK_at K n j (unhide HJ)] at p3
        have P3 := hide p3
        have L3 := hide (((unhide HL).trans (Lone.of_below b1)).trans (lone_setCell g j w1 (.string (mkT (K + j)))))
        clear p3 ho hl b1 HL HO hm
        generalize (mixG (marksK K n) ts j).getD j noS = m0 at *
        generalize mkT (K + j) = tx at *
        go_wp2
        go_roundw
        case rel => exact ⟨j + 1, unhide HJ, by go_num, by rw [← unhide HZ]; go_num, unhide P3, unhide L3⟩
        case measure => have := unhide HJ; simp [intOf]; omega
      · obtain rfl : j = n := by omega
        have hm := mixG_all (marksK K j) ts (by rw [marksK_len]; exact unhide HN)
        rw [← unhide HN] at hm
        rw [hm] at ho
        have HO := hide ho
        have HL := hide hlo
        clear hm ho hlo hlt
        go_wp2
        go_ret
        refine ⟨rfl, .inr ⟨g, cap, rest, by rw [marksK_len], unhide HG, unhide HH, unhide HO, by rw [marksK_len]; exact unhide HCP⟩, ⟨(unhide HL).os, (unhide HL).tape, (unhide HL).output, (unhide HL).size, fun k hk hne => (unhide HL).block k hk (fun e => hne (by rw [e]; rfl))⟩⟩
theorem held66 (v : Value) (K n : Nat) (w : World) (hv : strsV w v (marksK K n)) (hn : n ≤ 2097152) (hK : K ≤ 2097152) :
    Calls Try.prog 66 #[v, .int .i64 (K : Int)] w fun e w' => e = .returned (.int .i64 ((K : Int) + (n : Int))) ∧ Below w.heap.size w w' := by
  obtain ⟨A, cap, rfl, hc⟩ := hv
  rw [marksK_len] at hc ⊢
  have HC := hide hc
  clear hc
  have n1 : (n : Int) ≤ 2097152 := by omega
  have k0 : (0 : Int) ≤ (K : Int) := by omega
  have k1 : (K : Int) ≤ 2097152 := by omega
  go_enter Try.func66, Try.ntmps66
  go_wp2
  go_loopw [1, 5] (fun m i wr => ∃ j : Nat, j ≤ n ∧ i = .int .i64 j ∧ m = .int .i64 ((K : Int) + (j : Int)) ∧ Below w.heap.size w wr) (fun _ i _ => n - (intOf i).toNat)
  case atStart => exact ⟨0, by omega, rfl, by simp, Below.refl _ _⟩
  case round =>
    obtain ⟨j, hj, rfl, rfl, hb⟩ := hrel
    by_cases hlt : j < n
    · obtain ⟨b, off, hA, hbl, hcell⟩ := unhide HC (by omega)
      subst hA
      have q1 : (j : Int) < (n : Int) := by omega
      have q0 : (0 : Int) ≤ (j : Int) := by omega
      have CF : Hid (∀ W, Below w.heap.size w W → W.cell? ⟨b, off + j, none⟩ = some (.string (mkT (K + j)))) := hide fun W hb => by
        rw [cell_below hb hbl, hcell j hlt, marksK_at K n j hlt]
      have hm := hide fun W => mt38 (K + j) (by omega) W
      have eK : ((K + j : Nat) : Int) = (K : Int) + (j : Int) := by omega
      obtain ⟨z, hz⟩ : ∃ z : Int, (K : Int) + (j : Int) = z := ⟨_, rfl⟩
      rw [eK, hz] at hm
      rw [hz]
      have z0 : 0 ≤ z := by omega
      have z1 : z ≤ 4194304 := by omega
      have HZ := hide hz
      have HJ := hide hlt
      have HB := hide hb
      clear hcell hlt hj hbl hb eK hz
      generalize mkT (K + j) = t at *
      go_wp2
      refine wp_region_held (S := fun W' => Below w.heap.size w W') (by kernel_rfl) ?_
      have s0 : Below w.heap.size w { wr with drawn := wr.drawn + 1 } := below_drewN (unhide HB) 1
      refine wpAnyH_take (i := 0) (oi := { dst := some 12, op := Op.move (Operand.tmp 0), type := 31, pos := "exact.go:287", after := #[], guard := none }) (v := ?_) rfl (by kernel_rfl) (by kernel_rfl) (by kernel_rfl) (fun _ _ _ h => h) (Or.inl ⟨by rfl, ?_⟩) s0 ?_
      rotate_left
      · intro W hSw
        have cc := unhide CF W hSw
        go_simp
        try with_reducible rfl
      simp only [Act.put, List.setIfInBounds_toArray, List.set_cons_zero, List.set_cons_succ]
      refine wpAnyH_take (i := 1) (oi := { dst := some 13, op := Op.move (Operand.tmp 5), type := 3, pos := "exact.go:287", after := #[], guard := none }) (v := ?_) rfl (by kernel_rfl) (by kernel_rfl) (by kernel_rfl) (fun _ _ _ h => h) (Or.inl ⟨by rfl, ?_⟩) s0 ?_
      rotate_left
      · intro W hSw
        have cc := unhide CF W hSw
        go_simp
        try with_reducible rfl
      simp only [Act.put, List.setIfInBounds_toArray, List.set_cons_zero, List.set_cons_succ]
      refine wpAnyH_take (i := 2) (oi := { dst := some 14, op := Op.indexAddr 31 (Operand.tmp 12) (Operand.tmp 13), type := 0, pos := "exact.go:287", after := #[{ on := 0, ground := Ground.data }, { on := 1, ground := Ground.data }], guard := none }) (v := ?_) rfl (by kernel_rfl) (by kernel_rfl) (by kernel_rfl) (fun _ _ _ h => h) (Or.inl ⟨by rfl, ?_⟩) s0 ?_
      rotate_left
      · intro W hSw
        have cc := unhide CF W hSw
        go_simp
        try with_reducible rfl
      simp only [Act.put, List.setIfInBounds_toArray, List.set_cons_zero, List.set_cons_succ]
      refine wpAnyH_take (i := 3) (oi := { dst := some 15, op := Op.load 9 (Operand.tmp 14), type := 9, pos := "exact.go:287", after := #[{ on := 2, ground := Ground.data }], guard := none }) (v := ?_) rfl (by kernel_rfl) (by kernel_rfl) (by kernel_rfl) (fun _ _ _ h => h) (Or.inl ⟨by rfl, ?_⟩) s0 ?_
      rotate_left
      · intro W hSw
        have cc := unhide CF W hSw
        go_simp
        try with_reducible rfl
      simp only [Act.put, List.setIfInBounds_toArray, List.set_cons_zero, List.set_cons_succ]
      refine wpAnyH_take (i := 4) (oi := { dst := some 16, op := Op.move (Operand.tmp 1), type := 3, pos := "exact.go:287", after := #[], guard := none }) (v := ?_) rfl (by kernel_rfl) (by kernel_rfl) (by kernel_rfl) (fun _ _ _ h => h) (Or.inl ⟨by rfl, ?_⟩) s0 ?_
      rotate_left
      · intro W hSw
        have cc := unhide CF W hSw
        go_simp
        try with_reducible rfl
      simp only [Act.put, List.setIfInBounds_toArray, List.set_cons_zero, List.set_cons_succ]
      refine wpAnyH_one (i := 5) (by kernel_rfl) ?_
      refine wpOp_step (o := { dst := some 17, op := Op.call { callee := Callee.value (Operand.func 70), args := #[Operand.tmp 16], argTypes := #[3] }, type := 9, pos := "exact.go:287", after := #[{ on := 4, ground := Ground.data }], guard := none }) rfl fun K' hK => step_enterW (by rfl) 70 #[.int .i64 z] (by go_simp) ((unhide hm _).mono ?_)
      rintro e w1 ⟨rfl, b1⟩
      have s1 := bl_st b1 s0
      clear b1
      refine ⟨_, rfl, hK _ _ ⟨s1, ?_⟩⟩
      simp only [Act.put, List.setIfInBounds_toArray, List.set_cons_zero, List.set_cons_succ]
      refine wpAnyH_take (i := 6) (oi := { dst := some 18, op := Op.binOp BinOp.neq 9 (Operand.tmp 15) (Operand.tmp 17) 9, type := 4, pos := "exact.go:287", after := #[{ on := 3, ground := Ground.data }, { on := 5, ground := Ground.data }], guard := none }) (v := ?_) rfl (by kernel_rfl) (by kernel_rfl) (by kernel_rfl) (fun _ _ _ h => h) (Or.inl ⟨by rfl, ?_⟩) s1 ?_
      rotate_left
      · intro W hSw
        have cc := unhide CF W hSw
        go_simp
        try with_reducible rfl
      simp only [Act.put, List.setIfInBounds_toArray, List.set_cons_zero, List.set_cons_succ]
      refine wpAnyH_done (by kernel_rfl) ?_ _
      have S1 := hide s1
      clear s1 s0 HB hm CF
      go_wp2
      go_roundw
      case rel => exact ⟨j + 1, unhide HJ, by go_num, by rw [← unhide HZ]; go_num, unhide S1⟩
      case measure => have := unhide HJ; simp [intOf]; omega
    · obtain rfl : j = n := by omega
      have HB := hide hb
      clear hlt hb
      go_wp2
      go_ret
      exact ⟨rfl, unhide HB⟩
end Go.Proofs.Ythonnlifgdnacaa
