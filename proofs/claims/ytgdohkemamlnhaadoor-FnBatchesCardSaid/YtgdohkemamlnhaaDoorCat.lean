/- slices.Concat of slices of bytes. -/
import Derived.Test.YtgdohkemamlnhaaDoorNumB
namespace Go.Proofs.YtgdohkemamlnhaaDoor
open Go.RowKit
set_option maxHeartbeats 4000000
set_option maxRecDepth 20000
theorem run_append_nil_zeros (w : World) (ty N : Nat) (hN : 0 < N) (hm : N ≤ 4194304) :
    ∃ (c : Nat) (w' : World), (Builtin.append_ #[22, 3] ty #[.slice none 0 0, .int .i64 (N : Int)]).run Tryd.prog w = .ok (.slice (some ⟨w.heap.size, 0, none⟩) N c) w' ∧ w'.ownsRow w.heap.size 5 1 (.slice (some ⟨w.heap.size, 0, none⟩) N c) N ((List.replicate N (0 : Int)).map (Value.int .u8)) ∧ Below w.heap.size w w' := by
  obtain ⟨i0, hi0, hz0, hz1, hz2⟩ := info_parts info5
  have hold : (Builtin.firstCells i0.size 0 (.slice none 0 0)).run Tryd.prog w.drew = .ok (([] : List Int).map (Value.int .u8)).toArray w.drew := by rfl
  have hr := Lib.run_append_grow_zeros (P := Tryd.prog) w 22 3 ty 5 i0 (.int .u8 0) .i64 .i64 Tryd.underlying22 Tryd.underlying3 hi0 hz0 none 0 0 _ hold N hN (by rw [hz1]; omega) (by omega) (by omega) (by rw [hz2]; omega) (growslice_fits (by omega) (by rw [hz2]; omega))
  rw [zeros_u8] at hr
  have hge := grownCap_ge w (0 + N) 0 5
  have hlen : ((List.replicate N (0 : Int)).map (Value.int .u8)).length = N * 1 := by simp
  rw [Nat.zero_add] at hr hge
  refine ⟨_, _, hr, ⟨hlen, .inr ⟨w.heap.size, _, _, rfl, Nat.le_refl _, heap_alloc_new w.drew _, hge, grownCap_le_maxLen w N 0 5 (by unfold maxLen; omega), ?_, ?_⟩⟩, ⟨rfl, rfl, rfl, by simp, fun j hj => Below.heap_alloc w.drew _ j hj⟩⟩
  · simp [size_zeroCells, Value.cells]; omega
  · rw [← hlen]
    generalize Builtin.zeroCells (Value.int .u8 0).cells (grownCap w N 0 5 - N) = Z
    have e : (([] : List Int).map (Value.int .u8)).toArray ++ ((List.replicate N (0 : Int)).map (Value.int .u8)).toArray ++ Z = ((List.replicate N (0 : Int)).map (Value.int .u8) ++ Z.toList).toArray := by simp
    rw [e, List.take_left]
theorem own_none_of {w : World} {base g N c : Nat} {xs : List Value} (h : w.ownsRow base 5 1 (.slice (some ⟨g, 0, none⟩) N c) N xs) : w.ownsRow base 5 1 (.slice (some ⟨g, 0, none⟩) 0 c) 0 (([] : List Int).map (Value.int .u8)) := by
  rcases h.2 with ⟨e, _⟩ | ⟨g', cap, cur, e, h1, h2, h3, h4, h5, h6⟩
  · simp at e
  · simp only [Value.slice.injEq, Option.some.injEq, Addr.mk.injEq, and_true, true_and] at e
    obtain ⟨rfl, rfl⟩ := e
    exact ⟨rfl, .inr ⟨g, c, cur, rfl, h1, h2, Nat.zero_le _, h4, h5, by simp⟩⟩
theorem wpList_append_nil_zeros (w : World) {ops : Array Oper} {rest : List Oper} {o : Oper} {a : Act} {Q : Exit → Act → World → Prop} (hgd : o.guard = none) (s x : Operand)
    (ho : o.op = .call { callee := .builtin .append, args := #[s, x], argTypes := #[22, 3] })
    (N : Nat) (hs : a.eval s = .slice none 0 0) (hxv : a.eval x = .int .i64 (N : Int)) (hN : 0 < N) (hm : N ≤ 4194304)
    (h : ∀ (g c : Nat) (w' : World), w'.ownsRow w.heap.size 5 1 (.slice (some ⟨g, 0, none⟩) N c) N ((List.replicate N (0 : Int)).map (Value.int .u8)) → Below w.heap.size w w' → wpList Tryd.prog ops Q rest (a.put o.dst (.slice (some ⟨g, 0, none⟩) N c)) w') : wpList Tryd.prog ops Q (o :: rest) a w :=
  wpList_plain hgd fun K hK => by
    obtain ⟨c, w', hr, h2, h4⟩ := run_append_nil_zeros w o.type N hN hm
    unfold Oper.wp execOp
    simp only [ho, resolve, invoke, builtin, Sem.run_bind, Sem.run_pure, Result.andThen_ok, List.map_toArray, List.map_cons, List.map_nil, hs, hxv, hr]
    exact hK _ _ (h _ c w' h2 h4)
theorem grow_any (N : Nat) (hN : 0 < N) (hm : N ≤ 4194304) (w : World) :
    Calls Tryd.prog 60 #[.slice none 0 0, .int .i64 (N : Int)] w fun e w' => ∃ g c, e = .returned (.slice (some ⟨g, 0, none⟩) 0 c) ∧ w'.ownsRow w.heap.size 5 1 (.slice (some ⟨g, 0, none⟩) 0 c) 0 (([] : List Int).map (Value.int .u8)) ∧ Below w.heap.size w w' := by
  have q0 : (0 : Int) < (N : Int) := by omega
  have q1 : (0 : Int) ≤ (N : Int) := by omega
  have HN := hide hN
  clear hN
  go_enter Tryd.func60, Tryd.ntmps60
  go_wp2_with (at_builtin; refine wpList_append_nil_zeros _ rfl _ _ rfl N rfl rfl (unhide HN) hm ?_; intro g c w1 o1 b1)
  go_ret
  exact ⟨g, c, rfl, own_none_of o1, b1⟩
/-- the first j of some lists, one behind the other -/
def catL (X : Nat → List Int) : Nat → List Int
  | 0 => []
  | j + 1 => catL X j ++ X j
theorem catL_mono (X : Nat → List Int) {j n : Nat} (h : j ≤ n) : (catL X j).length ≤ (catL X n).length := by
  induction n with
  | zero => obtain rfl : j = 0 := by omega
            exact Nat.le_refl _
  | succ n ih =>
    rcases Nat.lt_or_ge j (n + 1) with h1 | h1
    · have := ih (by omega)
      simp [catL]; omega
    · obtain rfl : j = n + 1 := by omega
      exact Nat.le_refl _
theorem catL_isB (X : Nat → List Int) : ∀ n, (∀ i, i < n → isB (X i)) → isB (catL X n)
  | 0, _ => fun x hx => by simp [catL] at hx
  | n + 1, h => fun x hx => by
    rcases List.mem_append.1 hx with h1 | h1
    · exact catL_isB X n (fun i hi => h i (by omega)) x h1
    · exact h n (by omega) x h1
theorem cat_any (p n : Nat) (V : Nat → Value) (X : Nat → List Int) (w : World) (hp : p < w.heap.size) (hn : n ≤ 100) (hc : ∀ i, i < n → w.cell? ⟨p, i, none⟩ = some (V i)) (hb : ∀ i, i < n → bytesV w (V i) (X i)) (h0 : 0 < (catL X n).length) (hT : (catL X n).length ≤ 4194304) :
    Calls Tryd.prog 39 #[.slice (some ⟨p, 0, none⟩) n n] w fun e w' => ∃ v, e = .returned v ∧ ownB w.heap.size w' v (catL X n) ∧ Below w.heap.size w w' := by
  have HC := hide hc
  have HB := hide hb
  have H0 := hide h0
  have HT := hide hT
  have HP := hide hp
  have HI := hide (catL_isB X n (fun i hi => by obtain ⟨_, _, _, h, _⟩ := hb i hi; exact h))
  have qn : (n : Int) ≤ 100 := by omega
  clear hc hb h0 hT hp hn
  go_enter Tryd.func39, Tryd.ntmps39
  go_wp2
  go_loopw [3, 11] (fun sz i wr => ∃ j : Nat, j ≤ n ∧ i = .int .i64 j ∧ sz = .int .i64 ((catL X j).length : Nat) ∧ wr = w) (fun _ i _ => n - (intOf i).toNat)
  case atStart => exact ⟨0, by omega, rfl, rfl, rfl⟩
  case round =>
    obtain ⟨j, hj, rfl, rfl, hwr⟩ := hrel
    obtain rfl := hwr.symm
    by_cases hlt : j < n
    · obtain ⟨A, cap, hv, _, _⟩ := unhide HB j hlt
      have p0 := unhide HC j hlt
      rw [hv] at p0
      have q1 : (j : Int) < (n : Int) := by omega
      have q0 : (0 : Int) ≤ (j : Int) := by omega
      have e := catL_mono X (show j + 1 ≤ n from hlt)
      have T := unhide HT
      have E : (catL X (j + 1)).length = (catL X j).length + (X j).length := by simp [catL]
      have s1 : ((catL X j).length : Int) + ((X j).length : Int) ≤ 4194304 := by omega
      have s0 : (0 : Int) ≤ ((catL X j).length : Int) := by omega
      have s2 : (0 : Int) ≤ ((X j).length : Int) := by omega
      have E2 := hide (show ((catL X (j + 1)).length : Int) = ((catL X j).length : Int) + ((X j).length : Int) by omega)
      have HJ := hide hlt
      clear e T E hv hlt hj
      generalize ((catL X j).length : Int) = sj at *
      generalize (X j).length = xj at *
      go_wp2
      go_roundw
      case rel => exact ⟨j + 1, unhide HJ, by go_num, by rw [unhide E2], by first | rfl | trivial⟩
      case measure => have := unhide HJ; simp [intOf]; omega
    · obtain rfl : j = n := by omega
      clear hlt hj
      go_wp2_with (go_at_call 60; refine (grow_any _ (unhide H0) (unhide HT) _).mono ?_; rintro e w1 ⟨g, c, rfl, o1, b1⟩)
      have O1 := hide o1
      have B1 := hide b1
      clear o1 b1
      go_loopw [6, 27] (fun ns i wr2 => ∃ (k g c : Nat), k ≤ j ∧ i = .int .i64 k ∧ ns = .slice (some ⟨g, 0, none⟩) (catL X k).length c ∧ wr2.ownsRow w.heap.size 5 1 (.slice (some ⟨g, 0, none⟩) (catL X k).length c) (catL X k).length ((catL X k).map (Value.int .u8)) ∧ Below w.heap.size w wr2) (fun _ i _ => j - (intOf i).toNat)
      case atStart => exact ⟨0, g, c, by omega, rfl, rfl, unhide O1, unhide B1⟩
      case round =>
        obtain ⟨k, g', c', hk, rfl, rfl, o2, b2⟩ := hrel
        by_cases hlt : k < j
        · obtain ⟨A, cap, hv, hxb, hcl⟩ := (unhide HB k hlt).below b2
          have p0 := (cell_below b2 (unhide HP)).trans (unhide HC k hlt)
          rw [hv] at p0
          have q1 : (k : Int) < (j : Int) := by omega
          have q0 : (0 : Int) ≤ (k : Int) := by omega
          have e := catL_mono X (show k + 1 ≤ j from hlt)
          have T := unhide HT
          have E : (catL X (k + 1)).length = (catL X k).length + (X k).length := by simp [catL]
          have s1 : (catL X k).length + (X k).length ≤ 4194304 := by omega
          have S1 := hide s1
          have HV : Hid (bytesV _ (.slice A (X k).length cap) (X k)) := hide ⟨A, cap, rfl, hxb, hcl⟩
          have O2 := hide o2
          have B2 := hide b2
          have HJ := hide hlt
          clear e T E hv hlt hk s1 hxb hcl o2 b2
          go_wp2_with (at_builtin; refine wpList_append_bytes _ rfl _ _ rfl w.heap.size (catL X k).length _ (catL X k) rfl (unhide O2) ⟨_, _, rfl⟩ _ (X k) rfl (unhide HV) (unhide S1) (unhide B2).size ?_; intro g3 c3 w3 o3 gr3)
          have b3 : Below w.heap.size w w3 := Below.grown (unhide B2) gr3 (unhide B2).size fun k' hk' => ((unhide O2).lt k' hk').1
          go_roundw
          case rel =>
            have e : (catL X k).length + (X k).length = (catL X (k + 1)).length := by simp [catL]
            rw [e] at o3 ⊢
            exact ⟨k + 1, g3, c3, unhide HJ, by go_num, rfl, o3, b3⟩
          case measure => have := unhide HJ; simp [intOf]; omega
        · obtain rfl : k = j := by omega
          have O2 := hide o2
          have B2 := hide b2
          clear hlt hk o2 b2
          go_wp2
          go_ret
          obtain ⟨g4, c4, rest, hval, hgb, hgl, hcap, hrow⟩ := own_rowB (unhide O2) ⟨_, _, rfl⟩
          exact ⟨_, rfl, ⟨unhide HI, .inr ⟨g4, c4, rest, hval, hgb, hrow, hcap⟩⟩, unhide B2⟩
end Go.Proofs.YtgdohkemamlnhaaDoor
