/- Lists of acts and of codes, as values. -/
import Derived.Test.YthonnlifgdnacaaStz
namespace Go.Proofs.Ythonnlifgdnacaa
open Go.RowKit
set_option maxHeartbeats 4000000
set_option maxRecDepth 20000
set_option linter.unusedVariables false
/-- an act's cells -/
structure AC (b o : Nat) (a : Ta) (W : World) : Prop where
  c0 : W.cell? ⟨b, o, none⟩ = some (.int .i64 a.k)
  c1 : W.cell? ⟨b, o + 1, none⟩ = some (.int .i64 a.w)
  c2 : W.cell? ⟨b, o + 2, none⟩ = some (.string a.t)
  c3 : W.cell? ⟨b, o + 3, none⟩ = some (.bool a.la)
  c4 : W.cell? ⟨b, o + 4, none⟩ = some (.bool a.lb)
def ta0 : Ta := ⟨0, 0, noS, false, false⟩
/-- a slice that reads as these acts -/
def actsV (w : World) (v : Value) (al : List Ta) : Prop :=
  ∃ A cap, v = .slice A al.length cap ∧ (0 < al.length → ∃ b off, A = some ⟨b, off, none⟩ ∧ b < w.heap.size ∧ ∀ i, i < al.length → AC b (off + i * 5) (al.getD i ta0) w)
theorem AC.below {b o : Nat} {a : Ta} {W W' : World} {B : Nat} (h : AC b o a W) (hb : Below B W W') (hB : b < B) : AC b o a W' :=
  ⟨(hb.cell hB).trans h.c0, (hb.cell hB).trans h.c1, (hb.cell hB).trans h.c2, (hb.cell hB).trans h.c3, (hb.cell hB).trans h.c4⟩
theorem actsV.below {w w' : World} {v : Value} {al : List Ta} (h : actsV w v al) (hb : Below w.heap.size w w') : actsV w' v al := by
  obtain ⟨A, cap, rfl, hc⟩ := h
  refine ⟨A, cap, rfl, fun hn => ?_⟩
  obtain ⟨b, off, rfl, hl, hc⟩ := hc hn
  exact ⟨b, off, rfl, Nat.lt_of_lt_of_le hl hb.size, fun i hi => (hc i hi).below hb hl⟩
theorem actsV.slice {w : World} {v : Value} {al : List Ta} (h : actsV w v al) : ∃ A c, v = .slice A al.length c := by
  obtain ⟨A, c, e, _⟩ := h; exact ⟨A, c, e⟩
/-- ints, as values -/
def ivs (xs : List Int) : List Value := xs.map (Value.int .i64)
theorem info3 : (Try.prog.info? 3).map (fun i => (i.zero, i.size, i.bytes)) = some (some (.int .i64 0), 1, 8) := by kernel_rfl
/-- a slice that reads as these ints -/
def intsV (w : World) (v : Value) (xs : List Int) : Prop :=
  ∃ A cap, v = .slice A xs.length cap ∧ (0 < xs.length → ∃ b off, A = some ⟨b, off, none⟩ ∧ b < w.heap.size ∧ ∀ i, i < xs.length → w.cell? ⟨b, off + i, none⟩ = some (.int .i64 (xs.getD i 0)))
theorem intsV.below {w w' : World} {v : Value} {xs : List Int} (h : intsV w v xs) (hb : Below w.heap.size w w') : intsV w' v xs := by
  obtain ⟨A, cap, rfl, hc⟩ := h
  refine ⟨A, cap, rfl, fun hn => ?_⟩
  obtain ⟨b, off, rfl, hl, hc⟩ := hc hn
  exact ⟨b, off, rfl, Nat.lt_of_lt_of_le hl hb.size, fun i hi => (cell_below hb hl).trans (hc i hi)⟩
theorem ints_row {base : Nat} {w : World} {v : Value} {xs : List Int} {n : Nat} (hn : n = xs.length) (h : w.ownsRow base 3 1 v n (ivs xs)) : intsV w v xs := by
  subst hn
  obtain ⟨_, ⟨rfl, h0⟩ | ⟨g, cap, cur, rfl, hb, hc, h1, _, h3, h4⟩⟩ := h
  · obtain rfl := List.length_eq_zero_iff.1 h0
    exact ⟨none, 0, rfl, fun h => by simp at h⟩
  · refine ⟨_, _, rfl, fun _ => ⟨g, 0, rfl, (Array.getElem?_eq_some_iff.1 hc).1, fun i hi => ?_⟩⟩
    have := congrArg (fun l => l[i]?) h4
    simp only [Nat.mul_one, ivs] at this
    rw [List.getElem?_take, if_pos hi, List.getElem?_map, List.getElem?_eq_getElem hi, Array.getElem?_toList] at this
    rw [row_cell hc, Nat.zero_add, this, List.getD_eq_getElem?_getD, List.getElem?_eq_getElem hi]
    rfl
/-- append(codes, c) -/
theorem run_pushI (W : World) (ty : Nat) (base n g0 c0 : Nat) (ps : List Int) (hown : W.ownsRow base 3 1 (.slice (some ⟨g0, 0, none⟩) n c0) n (ivs ps)) (G : Nat) (hG : G = W.heap.size) (x : Int) (hm : n ≤ 2097152) (hb : base ≤ W.heap.size) :
    ∃ (g c : Nat) (w' : World), (Builtin.append_ #[26, 26] ty #[.slice (some ⟨g0, 0, none⟩) n c0, .slice (some ⟨G, 0, none⟩) 1 1]).run Try.prog (W.alloc (.cells #[.int .i64 x] 3)) = .ok (.slice (some ⟨g, 0, none⟩) (n + 1) c) w' ∧
      (∀ B X, Below B X W → B ≤ base → B ≤ W.heap.size → Below B X w') ∧ (∀ k, k < W.heap.size → k ≠ g0 → w'.heap[k]? = W.heap[k]?) ∧ W.heap.size ≤ w'.heap.size ∧ w'.ownsRow base 3 1 (.slice (some ⟨g, 0, none⟩) (n + 1) c) (n + 1) (ivs (ps ++ [x])) ∧ (g = g0 ∨ W.heap.size ≤ g) := by
  subst hG
  obtain ⟨i0, hi0, hz0, hz1, hz2⟩ := info_parts info3
  obtain ⟨g, c, w', hr, h2, h4, h5, _⟩ := run_append_lies (P := Try.prog) (W.alloc (.cells #[.int .i64 x] 3)) 26 ty base 3 i0 _ 1 8 Try.underlying26 hi0 hz0 hz1 hz2 rfl (by omega) (.slice (some ⟨g0, 0, none⟩) n c0) n (ivs ps) (hown.alloc _) ⟨W.heap.size, 0, none⟩ 1 1 [.int .i64 x] rfl
    (fun j u hj => by
      rcases j with _ | j
      · simp at hj
        subst hj
        rw [Addr.add_lit, row_cell (heap_alloc_new W (.cells #[.int .i64 x] 3))]; rfl
      · simp at hj) (by simp [Value.oneCell']) (by omega) (by unfold maxLen; omega) (by omega) (by simp; omega) _ rfl
  have hg0 := hown.lt g0 rfl
  have hs := h4.size
  simp only [World.size_alloc] at hs
  refine ⟨g, c, w', hr, fun B X hX hB hB' => ?_, fun k hk hne => ?_, by omega, by rw [show ivs (ps ++ [x]) = ivs ps ++ [.int .i64 x] by simp [ivs]]; exact h2, by rcases h5 with e | e; exact .inl (by cases e; rfl); exact .inr (by rw [e]; simp)⟩
  · exact Below.grown (hX.alloc hB' _) h4 (by simp; omega) (fun k e => by cases e; show B ≤ g0; omega)
  · rw [h4.block k (by simp; omega) (fun e => hne (by cases e; rfl)), Below.heap_alloc _ _ _ hk]
theorem wpList_pushI (W : World) {ops : Array Oper} {rest : List Oper} {o : Oper} {a : Act} {Q : Exit → Act → World → Prop} (hgd : o.guard = none) (s x : Operand)
    (ho : o.op = .call { callee := .builtin .append, args := #[s, x], argTypes := #[26, 26] })
    (base n g0 c0 : Nat) (ps : List Int) (hs : a.eval s = .slice (some ⟨g0, 0, none⟩) n c0) (hown : W.ownsRow base 3 1 (.slice (some ⟨g0, 0, none⟩) n c0) n (ivs ps))
    (G : Nat) (hG : G = W.heap.size) (t : Int) (hxv : a.eval x = .slice (some ⟨G, 0, none⟩) 1 1) (hm : n ≤ 2097152) (hb : base ≤ W.heap.size)
    (h : ∀ (g c : Nat) (w' : World), (∀ B X, Below B X W → B ≤ base → B ≤ W.heap.size → Below B X w') → (∀ k, k < W.heap.size → k ≠ g0 → w'.heap[k]? = W.heap[k]?) → W.heap.size ≤ w'.heap.size → w'.ownsRow base 3 1 (.slice (some ⟨g, 0, none⟩) (n + 1) c) (n + 1) (ivs (ps ++ [t])) → (g = g0 ∨ W.heap.size ≤ g) → wpList Try.prog ops Q rest (a.put o.dst (.slice (some ⟨g, 0, none⟩) (n + 1) c)) w') : wpList Try.prog ops Q (o :: rest) a (W.alloc (.cells #[.int .i64 t] 3)) :=
  wpList_plain hgd fun K hK => by
    obtain ⟨g, c, w', hr, h1, h2, h3, h4, h5⟩ := run_pushI W o.type base n g0 c0 ps hown G hG t hm hb
    unfold Oper.wp execOp
    simp only [ho, resolve, invoke, builtin, Sem.run_bind, Sem.run_pure, Result.andThen_ok, List.map_toArray, List.map_cons, List.map_nil, hs, hxv, hr]
    exact hK _ _ (h g c w' h1 h2 h3 h4 h5)
def tw0 : Tw := ⟨pe0, pe0⟩
theorem run_ok (al : List Ta) : peOK (runF al tw0).x = true ∧ peOK (runF al tw0).y = true := by
  have h := both_all al
  exact ⟨way_ok h.a h.b, way_ok h.b h.a⟩
theorem runF_snoc : ∀ (al : List Ta) (a : Ta) (z : Tw), runF (al ++ [a]) z = (stepF (runF al z) a).1
  | [], _, _ => rfl
  | b :: bs, a, z => by simp only [List.cons_append, runF]; exact runF_snoc bs a _
theorem codesF_snoc : ∀ (al : List Ta) (a : Ta) (z : Tw), codesF (al ++ [a]) z = codesF al z ++ [(stepF (runF al z) a).2]
  | [], _, _ => rfl
  | b :: bs, a, z => by simp only [List.cons_append, codesF, runF]; rw [codesF_snoc bs a _]
theorem codesF_len : ∀ (al : List Ta) (z : Tw), (codesF al z).length = al.length
  | [], _ => rfl
  | b :: bs, z => by simp only [codesF, List.length_cons]; rw [codesF_len bs _]
theorem take_snoc {al : List Ta} {j : Nat} (h : j < al.length) : al.take (j + 1) = al.take j ++ [al.getD j ta0] := by
  rw [List.take_add_one, List.getElem?_eq_getElem h, List.getD_eq_getElem?_getD, List.getElem?_eq_getElem h]; rfl
/-- the code of a run -/
def tkC (al : List Ta) : Int := if 4096 < al.length then 2 else if 120 < al.length then 6 else if al.any (fun a => decide (65536 < a.t.size)) = true then 2 else 0
end Go.Proofs.Ythonnlifgdnacaa
