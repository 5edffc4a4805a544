/- Ints appended; the tags of the law over false positives. -/
import Derived.Test.YthckgccfjpgbaaaApp
import Derived.Test.YthckgccfjpgbaaaNew
import Derived.Test.YthckgccfjpgbaaaFat
import Derived.Test.YthckgccfjpgbaaaFam
namespace Go.Proofs.Ythckgccfjpgbaaa
open Go.RowKit
set_option maxHeartbeats 4000000
set_option maxRecDepth 20000
def flatI (xs : List Int) : List Value := xs.map (Value.int .i64)
theorem flatI_len (xs : List Int) : (flatI xs).length = xs.length * 1 := by simp [flatI]
theorem flatI_app (ps qs : List Int) : flatI (ps ++ qs) = flatI ps ++ flatI qs := by simp [flatI]
theorem flatI_one (ps : List Int) : ∀ u ∈ flatI ps, u.oneCell' = true := by
  intro u hu
  obtain ⟨b, _, rfl⟩ := List.mem_map.1 hu
  rfl
theorem flatI_cells {w : World} {b off : Nat} (ps : List Int) (h : ∀ i, i < ps.length → w.cell? ⟨b, off + i, none⟩ = some (.int .i64 (ps.getD i 0))) : ∀ j u, (flatI ps)[j]? = some u → w.cell? ((⟨b, off, none⟩ : Addr).add j) = some u := by
  intro j u hj
  have hl : j < ps.length := by
    rcases Nat.lt_or_ge j ps.length with h | h
    · exact h
    · rw [List.getElem?_eq_none (by simpa [flatI] using h)] at hj; cases hj
  rw [Addr.add_lit, h j hl, List.getD_eq_getElem?_getD]
  simp only [flatI, List.getElem?_map] at hj
  cases hg : ps[j]? with
  | none => rw [hg] at hj; cases hj
  | some x => rw [hg] at hj; exact hj
theorem run_append_ints (w : World) (ty base k : Nat) (v : Value) (ps : List Int) (hown : w.ownsRow base 3 1 v k (flatI ps)) (hv : ∃ g c, v = .slice (some ⟨g, 0, none⟩) k c) (u : Value) (qs : List Int) (hu : intsV w u qs) (hm : k + qs.length ≤ 4194304) (hbase : base ≤ w.heap.size) :
    ∃ (g c : Nat) (w' : World), (Builtin.append_ #[31, 31] ty #[v, u]).run Try.prog w = .ok (.slice (some ⟨g, 0, none⟩) (k + qs.length) c) w' ∧ w'.ownsRow base 3 1 (.slice (some ⟨g, 0, none⟩) (k + qs.length) c) (k + qs.length) (flatI (ps ++ qs)) ∧ w.grownBy w' v.ownBlock := by
  obtain ⟨i0, hi0, hz0, hz1, hz2⟩ := info_parts info3
  obtain ⟨B, cbp, rfl, hc⟩ := hu
  rcases Nat.eq_zero_or_pos qs.length with e0 | h0
  · obtain rfl := List.length_eq_zero_iff.1 e0
    obtain ⟨g, c, rfl⟩ := hv
    have hk : k ≤ c := by
      rcases hown.2 with ⟨e, _⟩ | ⟨g', c', cur, e, _, _, h1, _⟩
      · simp at e
      · simp only [Value.slice.injEq] at e
        obtain ⟨_, _, rfl⟩ := e
        exact h1
    have hs : Src Try.prog i0.size 31 (.slice B 0 cbp) 0 [] w := by
      cases B with
      | none => exact Src.ofNil w Try.underlying31 cbp
      | some a => exact Src.ofSlice w Try.underlying31 a 0 cbp [] (by simp) (fun j u h => by simp at h) (fun u h => by cases h)
    have hr := run_append_room_src (P := Try.prog) w 31 31 ty 3 i0 Try.underlying31 hi0 g 0 k c _ 0 [] hs (by omega) (fun j h => by simp at h) (fun j h => by simp at h)
    exact ⟨g, c, w, hr, by rw [List.append_nil]; exact hown, World.grownBy.refl _ _⟩
  · obtain ⟨b, off, rfl, hlt, hcc⟩ := hc h0
    obtain ⟨g, c, w', h1, h2, h3, _, _⟩ := run_append_lies (P := Try.prog) w 31 ty base 3 i0 _ 1 8 Try.underlying31 hi0 hz0 hz1 hz2 rfl (by omega) v k (flatI ps) hown ⟨b, off, none⟩ qs.length cbp (flatI qs) (flatI_len qs) (flatI_cells qs hcc) (flatI_one qs) h0 (by unfold maxLen; omega) (by omega) hbase _ rfl
    exact ⟨g, c, w', h1, by rw [flatI_app]; exact h2, h3⟩
theorem wpList_append_ints (w : World) {ops : Array Oper} {rest : List Oper} {o : Oper} {a : Act} {Q : Exit → Act → World → Prop} (hgd : o.guard = none) (s x : Operand)
    (ho : o.op = .call { callee := .builtin .append, args := #[s, x], argTypes := #[31, 31] })
    (base k : Nat) (v : Value) (ps : List Int) (hs : a.eval s = v) (hown : w.ownsRow base 3 1 v k (flatI ps)) (hv : ∃ g c, v = .slice (some ⟨g, 0, none⟩) k c) (u : Value) (qs : List Int) (hxv : a.eval x = u) (hu : intsV w u qs) (hm : k + qs.length ≤ 4194304) (hbase : base ≤ w.heap.size)
    (h : ∀ (g c : Nat) (w' : World), w'.ownsRow base 3 1 (.slice (some ⟨g, 0, none⟩) (k + qs.length) c) (k + qs.length) (flatI (ps ++ qs)) → w.grownBy w' v.ownBlock → wpList Try.prog ops Q rest (a.put o.dst (.slice (some ⟨g, 0, none⟩) (k + qs.length) c)) w') : wpList Try.prog ops Q (o :: rest) a w :=
  wpList_plain hgd fun K hK => by
    obtain ⟨g, c, w', hr, h2, h4⟩ := run_append_ints w o.type base k v ps hown hv u qs hu hm hbase
    unfold Oper.wp execOp
    simp only [ho, resolve, invoke, builtin, Sem.run_bind, Sem.run_pure, Result.andThen_ok, List.map_toArray, List.map_cons, List.map_nil, hs, hxv, hr]
    exact hK _ _ (h g c w' h2 h4)
theorem step_append_ints (w : World) {ops : Array Oper} {o : Oper} {a : Act} {K : Act → World → Prop} {Q : Exit → Act → World → Prop} {E : Prop} (hgd : o.guard = none) (s x : Operand)
    (ho : o.op = .call { callee := .builtin .append, args := #[s, x], argTypes := #[31, 31] })
    (base k : Nat) (v : Value) (ps : List Int) (hs : a.eval s = v) (hown : w.ownsRow base 3 1 v k (flatI ps)) (hv : ∃ g c, v = .slice (some ⟨g, 0, none⟩) k c) (u : Value) (qs : List Int) (hxv : a.eval x = u) (hu : intsV w u qs) (hm : k + qs.length ≤ 4194304) (hbase : base ≤ w.heap.size)
    (h : ∀ (g c : Nat) (w' : World), w'.ownsRow base 3 1 (.slice (some ⟨g, 0, none⟩) (k + qs.length) c) (k + qs.length) (flatI (ps ++ qs)) → w.grownBy w' v.ownBlock → K (a.put o.dst (.slice (some ⟨g, 0, none⟩) (k + qs.length) c)) w') :
    if Region.wanted o (yielded ops a.tmps) = true then Oper.wp Try.prog o a w K Q else E := by
  have hw : Region.wanted o (yielded ops a.tmps) = true := by simp [Region.wanted, hgd]
  rw [if_pos hw]
  obtain ⟨g, c, w', hr, h2, h4⟩ := run_append_ints w o.type base k v ps hown hv u qs hu hm hbase
  unfold Oper.wp execOp
  simp only [ho, resolve, invoke, builtin, Sem.run_bind, Sem.run_pure, Result.andThen_ok, List.map_toArray, List.map_cons, List.map_nil, hs, hxv, hr]
  exact h g c w' h2 h4
theorem own_ints {w : World} {base n : Nat} {v : Value} {ps : List Int} (h : w.ownsRow base 3 1 v n (flatI ps)) (hv : ∃ g c, v = .slice (some ⟨g, 0, none⟩) n c) : ownI base w.heap.size w v ps := by
  obtain ⟨g0, c0, rfl⟩ := hv
  have hl := h.1
  rw [flatI_len] at hl
  rcases h.2 with ⟨e, h0⟩ | ⟨g, cap, cur, hv, hb, hg, hc, _, _, ht⟩
  · simp at e
  · refine .inr ⟨g, cap, cur.toList.drop (n * 1), by rw [hv]; congr 1; omega, hb, (Array.getElem?_eq_some_iff.1 hg).1, ?_, by omega⟩
    rw [hg]
    unfold rowObj
    congr 2
    show cur = (flatI ps ++ _).toArray
    rw [← ht, List.take_append_drop]
theorem one_int (w : World) (x : Int) : intsV (w.alloc (.cells #[.int .i64 x] 3)) (.slice (some ⟨w.heap.size, 0, none⟩) 1 1) [x] := by
  refine ⟨_, _, rfl, fun _ => ⟨_, _, rfl, by simp, fun i hi => ?_⟩⟩
  obtain rfl : i = 0 := by simpa using hi
  exact cell_rowO (xs := [x]) (rest := []) (heap_alloc_new w (.cells #[.int .i64 x] 3)) 0 (by simp)
/-- right tags, none of them the other -/
def tagsIn (P o : Nat) (xs : List Int) : Prop := ∀ i, i < xs.length → ∃ t : Nat, xs.getD i 0 = t ∧ t < P ∧ t ≠ o
theorem tagsIn_nil (P o : Nat) : tagsIn P o [] := fun i h => by simp at h
theorem tagsIn_snoc {P o t : Nat} {xs : List Int} (h : tagsIn P o xs) (h1 : t < P) (h2 : t ≠ o) : tagsIn P o (xs ++ [(t : Int)]) := by
  intro i hi
  rw [List.getD_eq_getElem?_getD]
  rcases Nat.lt_or_ge i xs.length with hl | hl
  · rw [List.getElem?_append_left hl, ← List.getD_eq_getElem?_getD]; exact h i hl
  · have : i = xs.length := by simp at hi; omega
    subst this
    exact ⟨t, by simp, h1, h2⟩
theorem tC_tags {P o : Nat} : ∀ {xs : List Int}, tagsIn P o xs → tC P o xs = 0
  | [], _ => rfl
  | x :: xs, h => by
    obtain ⟨t, e, h1, h2⟩ := h 0 (by simp)
    have e' : x = (t : Int) := e
    subst e'
    unfold tC
    rw [if_pos (by unfold inP; simp; omega), if_neg (by omega)]
    exact tC_tags fun i hi => h (i + 1) (by simpa using hi)
theorem tC_other {P o : Nat} (ho : o < P) : ∀ {xs : List Int}, tagsIn P o xs → tC P o (xs ++ [(o : Int)]) = 9
  | [], _ => by
    show tC P o [(o : Int)] = 9
    unfold tC
    rw [if_pos (by unfold inP; simp; omega), if_pos rfl]
  | x :: xs, h => by
    obtain ⟨t, e, h1, h2⟩ := h 0 (by simp)
    have e' : x = (t : Int) := e
    subst e'
    show tC P o ((t : Int) :: (xs ++ [(o : Int)])) = 9
    unfold tC
    rw [if_pos (by unfold inP; simp; omega), if_neg (by omega)]
    exact tC_other ho fun i hi => h (i + 1) (by simpa using hi)
theorem fsR_tags {P M o : Nat} {xs : List Int} (hp : primeB P = true) (h61 : P ≤ 61) (m1 : 1 ≤ M) (mP : M ≤ P) (ho : o < P) (hl : xs.length ≤ 6) (h : tagsIn P o xs) :
    fsR P M xs o = ((fsN P M xs o : Int), 0) := by
  have : fsC P M xs o = 0 := by
    unfold fsC
    have h1 : shapeB P M = true := by unfold shapeB; rw [hp]; simp; omega
    have h2 : inP P o = true := by unfold inP; simp; omega
    rw [if_neg (by omega), h1, h2, decide_eq_true (show (P : Int) ≤ 61 by omega), decide_eq_true (show xs.length ≤ 8 by omega), if_pos (by rfl), tC_tags h]
  unfold fsR
  rw [if_pos this]
theorem fsR_other {P M o : Nat} {xs : List Int} (hp : primeB P = true) (h61 : P ≤ 61) (m1 : 1 ≤ M) (mP : M ≤ P) (ho : o < P) (hl : xs.length ≤ 6) (h : tagsIn P o xs) :
    fsR P M (xs ++ [(o : Int)]) o = (0, 9) := by
  have : fsC P M (xs ++ [(o : Int)]) o = 9 := by
    unfold fsC
    have h1 : shapeB P M = true := by unfold shapeB; rw [hp]; simp; omega
    have h2 : inP P o = true := by unfold inP; simp; omega
    have h3 : (xs ++ [(o : Int)]).length = xs.length + 1 := by simp
    rw [if_neg (by omega), h1, h2, decide_eq_true (show (P : Int) ≤ 61 by omega), decide_eq_true (show (xs ++ [(o : Int)]).length ≤ 8 by omega), if_pos (by rfl), tC_other ho h]
  unfold fsR
  rw [if_neg (by omega), this]
structure Pr (P : Nat) : Prop where
  c : cop P
  p : primeB P = true
  q : primeB (2 * (P : Int)) = false
  lo : 11 ≤ P
  hi : P ≤ 61
theorem lit_cell {w : World} {g v : Nat} (h : w.heap[g]? = some (.cells #[.int .i64 11, .int .i64 13, .int .i64 31, .int .i64 61] 3 (0, 0))) (hv : v < 4) : ∃ P : Nat, w.cell? ⟨g, v, none⟩ = some (.int .i64 (P : Int)) ∧ Pr P := by
  have h' : w.heap[g]? = some (rowObj 3 .i64 [11, 13, 31, 61] []) := h
  have hc := cell_rowO h' v (by simpa using hv)
  have : v = 0 ∨ v = 1 ∨ v = 2 ∨ v = 3 := by omega
  rcases this with rfl | rfl | rfl | rfl
  · exact ⟨11, hc, cop11, by decide, by decide, by omega, by omega⟩
  · exact ⟨13, hc, cop13, by decide, by decide, by omega, by omega⟩
  · exact ⟨31, hc, cop31, by decide, by decide, by omega, by omega⟩
  · exact ⟨61, hc, cop61, by decide, by decide, by omega, by omega⟩
theorem fs_bound {P M o : Nat} (hp : Pr P) (h1 : 1 ≤ M) (h2 : M ≤ P) (ho : o < P) {xs : List Int} (h : tagsIn P o xs) :
    ((fsN P M xs o : Int) * (M : Int) ≤ 2 * (xs.length : Int) * (P : Int) * (P : Int)) ∧ (fsN P M xs o : Int) ≤ 3721 := by
  have := fsN_le hp.c (by have := hp.lo; omega) h1 h2 ho xs h
  constructor
  · have e : 2 * (xs.length : Int) * (P : Int) * (P : Int) = ((xs.length * (P * (2 * P)) : Nat) : Int) := by
      simp only [Int.natCast_mul]
      rw [Int.mul_comm 2, Int.mul_assoc, Int.mul_assoc, Int.mul_left_comm 2]
      rfl
    rw [e]
    exact_mod_cast this
  · have := tot_le (hitB P M xs o) P P
    have h4 : P * P ≤ 61 * 61 := Nat.mul_le_mul hp.hi hp.hi
    unfold fsN
    rw [Int.toNat_natCast]
    omega
end Go.Proofs.Ythckgccfjpgbaaa
