/- Noughts appended to a row of one's own ('append(b, make([]byte, n)...)'). -/
import Derived.Test.YtcikpcehdfnhfaaDoorApp
import Derived.Lib.AppendZerosOnto
import Derived.Laws.CopyRow
namespace Go.Proofs.YtcikpcehdfnhfaaDoor
open Go.RowKit
theorem zeros_u8 (N : Nat) : Builtin.zeroCells (Value.int .u8 0).cells N = ((List.replicate N (0 : Int)).map (Value.int .u8)).toArray := by
  apply Array.ext_getElem?
  intro i
  by_cases hi : i < N
  · simp [Builtin.zeroCells, Value.cells, hi, Nat.mod_one]
  · simp [Builtin.zeroCells, Value.cells, hi]
theorem run_append_zeros (w : World) (ty base k N : Nat) (v : Value) (xs : List Int) (hown : w.ownsRow base 5 1 v k (xs.map (Value.int .u8))) (hv : ∃ g c, v = .slice (some ⟨g, 0, none⟩) k c) (hm : k + N ≤ 4194304) (hbase : base ≤ w.heap.size) :
    ∃ (g c : Nat) (w' : World), (Builtin.append_ #[22, 3] ty #[v, .int .i64 (N : Int)]).run Tryd.prog w = .ok (.slice (some ⟨g, 0, none⟩) (k + N) c) w' ∧ w'.ownsRow base 5 1 (.slice (some ⟨g, 0, none⟩) (k + N) c) (k + N) ((xs ++ List.replicate N 0).map (Value.int .u8)) ∧ w.grownBy w' v.ownBlock := by
  obtain ⟨i0, hi0, hz0, hz1, hz2⟩ := info_parts info5
  have hxl : xs.length = k := by have := hown.1; simpa using this
  obtain ⟨g0, c0, rfl⟩ := hv
  rcases hown.2 with ⟨e, _⟩ | ⟨g, cap, cur, e, hbg, hg, hkc, hcm, hcs, htake⟩
  · simp at e
  · simp only [Value.slice.injEq, Option.some.injEq, Addr.mk.injEq, and_true, true_and] at e
    obtain ⟨rfl, rfl⟩ := e
    have hlen : ((xs ++ List.replicate N (0 : Int)).map (Value.int .u8)).length = (k + N) * 1 := by simp [hxl]
    have hw : IntKind.i64.wrap (N : Int) = N := by rw [IntKind.wrap_i64]; omega
    by_cases hroom : k + N ≤ c0
    · by_cases hN : N = 0
      · subst hN
        refine ⟨g0, c0, w, ?_, by simpa using hown, World.grownBy.refl _ _⟩
        have hw0 : IntKind.i64.wrap 0 = 0 := by decide
        simp [Builtin.append_, run_underlying Tryd.underlying22, run_underlying Tryd.underlying3, sizeOf, typeInfo, hi0, asInt, asIntOf, hkc, hw0, storeCells]
      · have hst := run_storeCells_at (P := Tryd.prog) g0 k 5 ((List.replicate N (0 : Int)).map (Value.int .u8)) 0 cur w hg (by simp [hcs]; omega) (fun u hu => by obtain ⟨y, _, rfl⟩ := List.mem_map.1 hu; rfl)
        have hneg : ¬ ((N : Int) < 0) := by omega
        have h48 : ¬ (281474976710656 < (N : Int)) := by omega
        refine ⟨g0, c0, w.setRow g0 (cur.toList.take (k + 0) ++ (List.replicate N (0 : Int)).map (Value.int .u8) ++ cur.toList.drop (k + 0 + ((List.replicate N (0 : Int)).map (Value.int .u8)).length)).toArray, ?_, ⟨hlen, .inr ⟨g0, c0, _, rfl, hbg, setRow_heap w g0 cur _ 5 _ hg, hroom, hcm, ?_, ?_⟩⟩, ⟨rfl, rfl, rfl, by simp, fun j _ hj => setRow_other w g0 j _ (fun e => hj (by simp [Value.ownBlock, e]))⟩⟩
        · have hadd : ∀ n, (⟨g0, 0, none⟩ : Addr).add n = ⟨g0, n, none⟩ := fun n => by rw [Addr.add_lit, Nat.zero_add]
          simp [Builtin.append_, run_underlying Tryd.underlying22, run_underlying Tryd.underlying3, sizeOf, typeInfo, zeroValue, hi0, hz0, hz1, hz2, asInt, asIntOf, hw, hneg, h48, hroom, hN, hadd, zeros_u8]
          simp at hst
          rw [hst]
          rfl
        · simp [hcs]; omega
        · have ht : cur.toList.take k = xs.map (Value.int .u8) := by simpa using htake
          have hl2 : (xs.map (Value.int .u8) ++ (List.replicate N (0 : Int)).map (Value.int .u8)).length = k + N := by simp [hxl]
          show (cur.toList.take (k + 0) ++ (List.replicate N (0 : Int)).map (Value.int .u8) ++ cur.toList.drop (k + 0 + ((List.replicate N (0 : Int)).map (Value.int .u8)).length)).take ((k + N) * 1) = _
          rw [Nat.add_zero, ht, Nat.mul_one, List.map_append, ← hl2, List.take_left]
    · have hN : 0 < N := by omega
      have holds : ∀ j u, (xs.map (Value.int .u8))[j]? = some u → w.drew.cell? ((⟨g0, 0, none⟩ : Addr).add j) = some u := hown.cells (g := g0) rfl
      have hold : (Builtin.firstCells i0.size k (.slice (some ⟨g0, 0, none⟩) k c0)).run Tryd.prog w.drew = .ok (xs.map (Value.int .u8)).toArray w.drew := run_firstCells_some w.drew i0.size k ⟨g0, 0, none⟩ k c0 (xs.map (Value.int .u8)) (by rw [hz1]; simp [hxl]) holds
      have hr := Lib.run_append_grow_zeros (P := Tryd.prog) w 22 3 ty 5 i0 (.int .u8 0) .i64 .i64 Tryd.underlying22 Tryd.underlying3 hi0 hz0 (some ⟨g0, 0, none⟩) k c0 (xs.map (Value.int .u8)) hold N hN (by rw [hz1]; omega) (by omega) (by omega) (by rw [hz2]; omega) (growslice_fits (by omega) (by rw [hz2]; omega))
      rw [zeros_u8] at hr
      have hge := grownCap_ge w (k + N) c0 5
      refine ⟨_, _, _, hr, ⟨hlen, .inr ⟨w.heap.size, _, _, rfl, hbase, heap_alloc_new w.drew _, hge, grownCap_le_maxLen w (k + N) c0 5 (by unfold maxLen; omega), ?_, ?_⟩⟩, ⟨rfl, rfl, rfl, by simp, fun j hj _ => Below.heap_alloc w.drew _ j hj⟩⟩
      · simp [size_zeroCells, Value.cells, hxl]; omega
      · have : ((xs ++ List.replicate N (0 : Int)).map (Value.int .u8)).length = (k + N) * 1 := hlen
        rw [← this]
        generalize Builtin.zeroCells (Value.int .u8 0).cells (grownCap w (k + N) c0 5 - (k + N)) = Z
        have e : ((xs.map (Value.int .u8)).toArray ++ ((List.replicate N (0 : Int)).map (Value.int .u8)).toArray ++ Z).toList = (xs ++ List.replicate N 0).map (Value.int .u8) ++ Z.toList := by simp
        rw [e, List.take_left]
theorem wpList_append_zeros (w : World) {ops : Array Oper} {rest : List Oper} {o : Oper} {a : Act} {Q : Exit → Act → World → Prop} (hgd : o.guard = none) (s x : Operand)
    (ho : o.op = .call { callee := .builtin .append, args := #[s, x], argTypes := #[22, 3] })
    (base k N : Nat) (v : Value) (xs : List Int) (hs : a.eval s = v) (hown : w.ownsRow base 5 1 v k (xs.map (Value.int .u8))) (hv : ∃ g c, v = .slice (some ⟨g, 0, none⟩) k c) (hxv : a.eval x = .int .i64 (N : Int)) (hm : k + N ≤ 4194304) (hbase : base ≤ w.heap.size)
    (h : ∀ (g c : Nat) (w' : World), w'.ownsRow base 5 1 (.slice (some ⟨g, 0, none⟩) (k + N) c) (k + N) ((xs ++ List.replicate N 0).map (Value.int .u8)) → w.grownBy w' v.ownBlock → wpList Tryd.prog ops Q rest (a.put o.dst (.slice (some ⟨g, 0, none⟩) (k + N) c)) w') : wpList Tryd.prog ops Q (o :: rest) a w :=
  wpList_plain hgd fun K hK => by
    obtain ⟨g, c, w', hr, h2, h4⟩ := run_append_zeros w o.type base k N v xs hown hv hm hbase
    unfold Oper.wp execOp
    simp only [ho, resolve, invoke, builtin, Sem.run_bind, Sem.run_pure, Result.andThen_ok, List.map_toArray, List.map_cons, List.map_nil, hs, hxv, hr]
    exact hK _ _ (h g c w' h2 h4)
end Go.Proofs.YtcikpcehdfnhfaaDoor
