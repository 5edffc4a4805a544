/- Forms and batches as they are drawn: where they lie, and what is lost. -/
import Derived.Test.YtecgfkfifocbaaaBlp
import Derived.Test.YtecgfkfifocbaaaBlo
namespace Go.Proofs.Ytecgfkfifocbaaa
open Go.RowKit
set_option maxHeartbeats 4000000
set_option maxRecDepth 20000
/-- all but one text -/
def fl (f : ByteArray) (xs : List ByteArray) : List ByteArray := xs.filter fun x => !decide (x = f)
theorem inB_fl (f : ByteArray) (xs : List ByteArray) : inB f (fl f xs) = false := by
  unfold inB fl
  rw [List.any_eq_false]
  intro x hx
  have h := (List.mem_filter.1 hx).2
  simpa using h
theorem inB_last (f : ByteArray) (xs : List ByteArray) : inB f (xs ++ [f]) = true := by
  unfold inB
  rw [List.any_append]
  simp
theorem fl_len (f : ByteArray) (xs : List ByteArray) : (fl f xs).length ≤ xs.length := List.length_filter_le _ _
theorem fl_good {f : ByteArray} {xs : List ByteArray} (h : goodT xs) : goodT (fl f xs) := fun t ht => h t (List.mem_filter.1 ht).1
theorem fl_take_no {f : ByteArray} {xs : List ByteArray} {k : Nat} (h : k < xs.length) (he : xs.getD k noS = f) : fl f (xs.take (k + 1)) = fl f (xs.take k) := by
  rw [← List.take_append_getElem h, fl, List.filter_append, show xs[k] = f by rw [← he, List.getD_eq_getElem?_getD, List.getElem?_eq_getElem h]; rfl]
  simp [fl]
theorem fl_take_yes {f : ByteArray} {xs : List ByteArray} {k : Nat} (h : k < xs.length) (he : xs.getD k noS ≠ f) : fl f (xs.take (k + 1)) = fl f (xs.take k) ++ [xs.getD k noS] := by
  have e : xs[k] = xs.getD k noS := by rw [List.getD_eq_getElem?_getD, List.getElem?_eq_getElem h]; rfl
  rw [← List.take_append_getElem h, fl, List.filter_append, e]
  generalize xs.getD k noS = y at *
  simp [fl, he]
theorem itB_good {xs : List ByteArray} (h : goodT xs) (hl : xs.length ≤ 64) : itB xs = true := by
  unfold itB
  rw [decide_eq_true hl, Bool.true_and, List.all_eq_true]
  intro x hx
  exact decide_eq_true (h x hx)
theorem bC_good {fs : List ByteArray} {xss : List (List ByteArray)} {N : Nat} (h1 : fs.length = N) (h2 : xss.length = N) (hN : N ≤ 5) (hf : goodT fs) (hx : ∀ i, i < N → (xss.getD i []).length ≤ 64 ∧ goodT (xss.getD i [])) : bC fs xss = 0 := by
  unfold bC
  rw [if_neg (by omega), bOK_all (by omega) (by omega) (itB_good hf (by omega)) (allL_yes (fun i hi => itB_good (hx i (by omega)).2 (hx i (by omega)).1))]
  rfl
theorem blm_all {fs : List ByteArray} {xss : List (List ByteArray)} {N : Nat} (h1 : fs.length = N) (hx : ∀ i, i < N → inB (fs.getD i noS) (xss.getD i []) = true) : blm fs xss = (0, false) := by
  unfold blm
  refine blF_none _ _ _ (fun i _ hi => ?_)
  unfold badH
  rw [hx (i + 1) (by omega)]
  simp
theorem blm_lost {fs : List ByteArray} {yss : List (List ByteArray)} {N lost : Nat} (h1 : fs.length = N) (hl : lost + 1 < N) (hx : ∀ i, i ≤ lost → inB (fs.getD i noS) (yss.getD i []) = true) (hy : inB (fs.getD (lost + 1) noS) (yss.getD (lost + 1) []) = false) : blm fs yss = ((lost : Int), true) := by
  unfold blm
  refine blF_first _ _ ?_ _ _ (fun i _ hi => ?_) (Nat.zero_le _) (by omega)
  · unfold badH
    rw [hx lost (Nat.le_refl _), hy]
    rfl
  · unfold badH
    rw [hx (i + 1) (by omega)]
    simp
theorem bP_is {fs : List ByteArray} {xss : List (List ByteArray)} (h : bC fs xss = 0) : bP fs xss = blm fs xss := by
  unfold bP; rw [if_pos h]
/-- a list in a block of its own -/
def LX (W : World) (u : Value) (ts : List ByteArray) : Prop := ∃ b c rest, u = .slice (some ⟨b, 0, none⟩) ts.length c ∧ W.heap[b]? = some (strO ts rest)
theorem LX.strs {W : World} {u : Value} {ts : List ByteArray} (h : LX W u ts) : strsV W u ts := by
  obtain ⟨b, c, rest, rfl, h⟩ := h
  exact ⟨_, _, rfl, fun _ => ⟨b, 0, rfl, (Array.getElem?_eq_some_iff.1 h).1, fun i hi => by rw [Nat.zero_add]; exact cell_strO h i hi⟩⟩
theorem LX.slice {W : World} {u : Value} {ts : List ByteArray} (h : LX W u ts) : ∃ A n c, u = Value.slice A n c := by
  obtain ⟨b, c, rest, rfl, h⟩ := h; exact ⟨_, _, _, rfl⟩
theorem LX.below {W W' : World} {u : Value} {ts : List ByteArray} (h : LX W u ts) (hb : Below W.heap.size W W') : LX W' u ts := by
  obtain ⟨b, c, rest, rfl, h⟩ := h
  exact ⟨b, c, rest, rfl, (hb.block b (Array.getElem?_eq_some_iff.1 h).1).trans h⟩
theorem LX.set {W : World} {u v : Value} {ts : List ByteArray} {g i : Nat} {us rest : List Value} (h : LX W u ts) (hg : W.heap[g]? = some (ssO us rest)) : LX (W.setCell ⟨g, i, none⟩ v) u ts := by
  obtain ⟨b, c, rest', rfl, h⟩ := h
  refine ⟨b, c, rest', rfl, (Below.heap_setCell _ _ _ b (fun e => ?_)).trans h⟩
  have e' : b = g := e
  subst e'
  rw [h, strO, ssO] at hg
  simp at hg
theorem LX.grown {W W' : World} {u : Value} {ts : List ByteArray} {g : Nat} {cur : Array Value} (h : LX W u ts) (hg : W.heap[g]? = some (.cells cur 22 (0, 0))) (hgr : W.grownBy W' (some g)) : LX W' u ts := by
  obtain ⟨b, c, rest', rfl, h⟩ := h
  refine ⟨b, c, rest', rfl, (hgr.block b (Array.getElem?_eq_some_iff.1 h).1 (fun e => ?_)).trans h⟩
  obtain rfl : b = g := Option.some.inj e
  rw [h, strO] at hg
  simp at hg
theorem row_at {W : World} {base e n g c : Nat} {xs : List Value} (h : W.ownsRow base e 1 (.slice (some ⟨g, 0, none⟩) n c) n xs) : ∃ cur, W.heap[g]? = some (.cells cur e (0, 0)) ∧ base ≤ g := by
  rcases h.2 with ⟨e1, _⟩ | ⟨g', c', cur, hv, hb, hg, _⟩
  · simp at e1
  · simp only [Value.slice.injEq, Option.some.injEq, Addr.mk.injEq] at hv
    obtain ⟨⟨rfl, _⟩, _⟩ := hv
    exact ⟨cur, hg, hb⟩
/-- while forms and batches are drawn: a list of forms, a list of batches, each batch in a block of its own -/
structure S1 (w : World) (jf j : Nat) (fs : List ByteArray) (us : List Value) (xss : List (List ByteArray)) (g6 c6 g7 c7 : Nat) (W : World) : Prop where
  f : W.ownsRow w.heap.size 9 1 (.slice (some ⟨g6, 0, none⟩) jf c6) jf (fs.map Value.string)
  fl : fs.length = jf
  b : W.ownsRow w.heap.size 22 1 (.slice (some ⟨g7, 0, none⟩) j c7) j us
  ul : us.length = j
  xl : xss.length = j
  x : ∀ i, i < j → ∃ b c rest, us.getD i noV = .slice (some ⟨b, 0, none⟩) (xss.getD i []).length c ∧ W.heap[b]? = some (strO (xss.getD i []) rest) ∧ b ≠ g6
  gf : goodT fs
  gx : ∀ i, i < j → (xss.getD i []).length ≤ 8 ∧ goodT (xss.getD i []) ∧ inB (fs.getD i noS) (xss.getD i []) = true
  be : Below w.heap.size w W
theorem kept_below {W W' : World} {base e n : Nat} {v : Value} {xs : List Value} (h : W.ownsRow base e 1 v n xs) (hb : Below W.heap.size W W') : W'.ownsRow base e 1 v n xs := by
  refine ⟨h.1, ?_⟩
  rcases h.2 with h | ⟨g, c, cur, hv, h1, hg, h2⟩
  · exact .inl h
  · exact .inr ⟨g, c, cur, hv, h1, (hb.block g (Array.getElem?_eq_some_iff.1 hg).1).trans hg, h2⟩
theorem S1.below {w W W' : World} {jf j g6 c6 g7 c7 : Nat} {fs : List ByteArray} {us : List Value} {xss : List (List ByteArray)} (h : S1 w jf j fs us xss g6 c6 g7 c7 W) (hb : Below W.heap.size W W') : S1 w jf j fs us xss g6 c6 g7 c7 W' :=
  ⟨kept_below h.f hb, h.fl, kept_below h.b hb, h.ul, h.xl, fun i hi => by
    obtain ⟨b, c, rest, e, h1, h2⟩ := h.x i hi
    exact ⟨b, c, rest, e, (hb.block b (Array.getElem?_eq_some_iff.1 h1).1).trans h1, h2⟩, h.gf, h.gx, bl_st hb h.be⟩
theorem S1.form {w W W' : World} {j g6 c6 g7 c7 g c : Nat} {fs : List ByteArray} {us : List Value} {xss : List (List ByteArray)} {t : ByteArray} (h : S1 w j j fs us xss g6 c6 g7 c7 W)
    (ho : W'.ownsRow w.heap.size 9 1 (.slice (some ⟨g, 0, none⟩) (j + 1) c) (j + 1) ((fs ++ [t]).map Value.string)) (hg : W.grownBy W' (some g6)) (hw : some g6 = some g ∨ g = W.heap.size) (ht : t.size ≤ 400) :
    S1 w (j + 1) j (fs ++ [t]) us xss g c g7 c7 W' := by
  obtain ⟨cur6, r6, b6⟩ := row_at h.f
  obtain ⟨cur7, r7, b7⟩ := row_at h.b
  refine ⟨ho, by rw [List.length_append, h.fl]; rfl, h.b.kept hg (.inr ?_), h.ul, h.xl, fun i hi => ?_, fun x hx => ?_, fun i hi => ?_, h.be.grown hg h.be.size (fun k e => by cases e; exact b6)⟩
  · intro e
    have e' : g7 = g6 := Option.some.inj e
    subst e'
    rw [r6] at r7
    simp at r7
  · obtain ⟨b, c', rest, e, h1, h2⟩ := h.x i hi
    have hlt := (Array.getElem?_eq_some_iff.1 h1).1
    refine ⟨b, c', rest, e, (hg.block b hlt (fun e => h2 (Option.some.inj e))).trans h1, ?_⟩
    rcases hw with hw | hw
    · rw [← Option.some.inj hw]; exact h2
    · omega
  · rcases List.mem_append.1 hx with hx | hx
    · exact h.gf x hx
    · rw [List.mem_singleton.1 hx]; exact ht
  · obtain ⟨a1, a2, a3⟩ := h.gx i hi
    refine ⟨a1, a2, ?_⟩
    rw [show (fs ++ [t]).getD i noS = fs.getD i noS by rw [List.getD_eq_getElem?_getD, List.getElem?_append_left (by rw [h.fl]; exact hi), ← List.getD_eq_getElem?_getD]]
    exact a3
theorem getD_snoc {α : Type} (xs : List α) (x d : α) (n : Nat) (h : xs.length = n) : (xs ++ [x]).getD n d = x := by
  rw [List.getD_eq_getElem?_getD, List.getElem?_append_right (by omega)]
  simp [h]
theorem getD_old {α : Type} (xs : List α) (x d : α) (i : Nat) (h : i < xs.length) : (xs ++ [x]).getD i d = xs.getD i d := by
  rw [List.getD_eq_getElem?_getD, List.getElem?_append_left h, ← List.getD_eq_getElem?_getD]
theorem S1.batch {w W W' : World} {j g6 c6 g7 c7 g c gi ci : Nat} {fs : List ByteArray} {us : List Value} {xss : List (List ByteArray)} {xs : List ByteArray} {rest : List Value} (h : S1 w (j + 1) j fs us xss g6 c6 g7 c7 W)
    (hi : W.heap[gi]? = some (strO xs rest)) (hne : gi ≠ g6) (hx : xs.length ≤ 8 ∧ goodT xs ∧ inB (fs.getD j noS) xs = true)
    (ho : W'.ownsRow w.heap.size 22 1 (.slice (some ⟨g, 0, none⟩) (j + 1) c) (j + 1) (us ++ [.slice (some ⟨gi, 0, none⟩) xs.length ci])) (hg : W.grownBy W' (some g7)) :
    S1 w (j + 1) (j + 1) fs (us ++ [.slice (some ⟨gi, 0, none⟩) xs.length ci]) (xss ++ [xs]) g6 c6 g c W' := by
  obtain ⟨cur6, r6, b6⟩ := row_at h.f
  obtain ⟨cur7, r7, b7⟩ := row_at h.b
  have keep : ∀ (b : Nat) (ts : List ByteArray) (rs : List Value), W.heap[b]? = some (strO ts rs) → W'.heap[b]? = some (strO ts rs) := fun b ts rs h1 => by
    refine (hg.block b (Array.getElem?_eq_some_iff.1 h1).1 (fun e => ?_)).trans h1
    have e' : b = g7 := Option.some.inj e
    subst e'
    rw [h1, strO] at r7
    simp at r7
  refine ⟨h.f.kept hg (.inr ?_), h.fl, ho, by rw [List.length_append, h.ul]; rfl, by rw [List.length_append, h.xl]; rfl, fun i hij => ?_, h.gf, fun i hij => ?_, h.be.grown hg h.be.size (fun k e => by cases e; exact b7)⟩
  · intro e
    have e' : g6 = g7 := Option.some.inj e
    subst e'
    rw [r6] at r7
    simp at r7
  · rcases Nat.lt_succ_iff_lt_or_eq.1 hij with hh | rfl
    · rw [getD_old _ _ _ _ (by rw [h.ul]; exact hh), getD_old _ _ _ _ (by rw [h.xl]; exact hh)]
      obtain ⟨b, c', rs, e, h1, h2⟩ := h.x i hh
      exact ⟨b, c', rs, e, keep b _ rs h1, h2⟩
    · rw [getD_snoc _ _ _ _ h.ul, getD_snoc _ _ _ _ h.xl]
      exact ⟨gi, ci, rest, rfl, keep gi _ rest hi, hne⟩
  · rcases Nat.lt_succ_iff_lt_or_eq.1 hij with hh | rfl
    · rw [getD_old _ _ _ _ (by rw [h.xl]; exact hh)]
      exact h.gx i hh
    · rw [getD_snoc _ _ _ _ h.xl]
      exact hx
theorem S1.all {w W : World} {jf j g6 c6 g7 c7 : Nat} {fs : List ByteArray} {us : List Value} {xss : List (List ByteArray)} (h : S1 w jf j fs us xss g6 c6 g7 c7 W) : allS us := by
  intro u hu
  obtain ⟨i, hi, rfl⟩ := List.mem_iff_getElem.1 hu
  obtain ⟨b, c, rest, e, _⟩ := h.x i (by rw [← h.ul]; exact hi)
  rw [List.getD_eq_getElem?_getD, List.getElem?_eq_getElem hi] at e
  exact ⟨_, _, _, e⟩
/-- what stays while batches are written anew: forms, batches as they came -/
structure S0 (w : World) (N : Nat) (fs : List ByteArray) (us : List Value) (xss : List (List ByteArray)) (g6 g7 : Nat) (W : World) : Prop where
  f : ∃ rest, W.heap[g6]? = some (strO fs rest)
  fl : fs.length = N
  b : ∃ rest, W.heap[g7]? = some (ssO us rest)
  ul : us.length = N
  xl : xss.length = N
  x : ∀ i, i < N → LX W (us.getD i noV) (xss.getD i [])
  gf : goodT fs
  gx : ∀ i, i < N → (xss.getD i []).length ≤ 8 ∧ goodT (xss.getD i []) ∧ inB (fs.getD i noS) (xss.getD i []) = true
  be : Below w.heap.size w W
theorem row_strs {w : World} {base n g c : Nat} {ps : List ByteArray} (h : w.ownsRow base 9 1 (.slice (some ⟨g, 0, none⟩) n c) n (ps.map Value.string)) : ∃ rest, w.heap[g]? = some (strO ps rest) := by
  have hl := h.1
  rw [List.length_map] at hl
  rcases h.2 with ⟨e, h0⟩ | ⟨g', cap, cur, hv, hb, hg, hc, _, _, ht⟩
  · simp at e
  · simp only [Value.slice.injEq, Option.some.injEq, Addr.mk.injEq] at hv
    obtain ⟨⟨rfl, _⟩, _⟩ := hv
    refine ⟨cur.toList.drop (n * 1), ?_⟩
    rw [hg, strO]
    congr 2
    rw [← ht, List.take_append_drop]
theorem row_ss {w : World} {base n g c : Nat} {us : List Value} (h : w.ownsRow base 22 1 (.slice (some ⟨g, 0, none⟩) n c) n us) : ∃ rest, w.heap[g]? = some (ssO us rest) := by
  rcases h.2 with ⟨e, h0⟩ | ⟨g', cap, cur, hv, hb, hg, hc, _, _, ht⟩
  · simp at e
  · simp only [Value.slice.injEq, Option.some.injEq, Addr.mk.injEq] at hv
    obtain ⟨⟨rfl, _⟩, _⟩ := hv
    refine ⟨cur.toList.drop (n * 1), ?_⟩
    rw [hg, ssO]
    congr 2
    rw [← ht, List.take_append_drop]
theorem S1.fix {w W : World} {N g6 c6 g7 c7 : Nat} {fs : List ByteArray} {us : List Value} {xss : List (List ByteArray)} (h : S1 w N N fs us xss g6 c6 g7 c7 W) : S0 w N fs us xss g6 g7 W :=
  ⟨row_strs h.f, h.fl, row_ss h.b, h.ul, h.xl, fun i hi => by obtain ⟨b, c, rest, e, h1, _⟩ := h.x i hi; exact ⟨b, c, rest, e, h1⟩, h.gf, h.gx, h.be⟩
theorem S0.below {w W W' : World} {N g6 g7 : Nat} {fs : List ByteArray} {us : List Value} {xss : List (List ByteArray)} (h : S0 w N fs us xss g6 g7 W) (hb : Below W.heap.size W W') : S0 w N fs us xss g6 g7 W' := by
  obtain ⟨r6, h6⟩ := h.f
  obtain ⟨r7, h7⟩ := h.b
  exact ⟨⟨r6, (hb.block _ (Array.getElem?_eq_some_iff.1 h6).1).trans h6⟩, h.fl, ⟨r7, (hb.block _ (Array.getElem?_eq_some_iff.1 h7).1).trans h7⟩, h.ul, h.xl, fun i hi => (h.x i hi).below hb, h.gf, h.gx, bl_st hb h.be⟩
/-- batches written anew: those between lost and cur without their form -/
structure S2 (w : World) (N lost cur : Nat) (fs : List ByteArray) (us : List Value) (xss : List (List ByteArray)) (g6 g7 g11 : Nat) (vs : List Value) (yss : List (List ByteArray)) (W : World) : Prop where
  o : S0 w N fs us xss g6 g7 W
  b : ∃ rest, W.heap[g11]? = some (ssO vs rest)
  ne : g11 ≠ g7
  lo : w.heap.size ≤ g11
  vl : vs.length = N
  yl : yss.length = N
  x : ∀ i, i < N → LX W (vs.getD i noV) (yss.getD i [])
  y : ∀ i, i < N → yss.getD i [] = if lost < i ∧ i < cur then Ytecgfkfifocbaaa.fl (fs.getD i noS) (xss.getD i []) else xss.getD i []
theorem S2.below {w W W' : World} {N lost cur g6 g7 g11 : Nat} {fs : List ByteArray} {us vs : List Value} {xss yss : List (List ByteArray)} (h : S2 w N lost cur fs us xss g6 g7 g11 vs yss W) (hb : Below W.heap.size W W') : S2 w N lost cur fs us xss g6 g7 g11 vs yss W' := by
  obtain ⟨r, h1⟩ := h.b
  exact ⟨h.o.below hb, ⟨r, (hb.block _ (Array.getElem?_eq_some_iff.1 h1).1).trans h1⟩, h.ne, h.lo, h.vl, h.yl, fun i hi => (h.x i hi).below hb, h.y⟩
theorem S2.put {w W : World} {N lost cur g6 g7 g11 : Nat} {fs : List ByteArray} {us vs : List Value} {xss yss : List (List ByteArray)} {u : Value} (h : S2 w N lost cur fs us xss g6 g7 g11 vs yss W) (hc : cur < N) (hl : lost < cur) (hu : LX W u (Ytecgfkfifocbaaa.fl (fs.getD cur noS) (xss.getD cur []))) :
    S2 w N lost (cur + 1) fs us xss g6 g7 g11 (vs.set cur u) (yss.set cur (Ytecgfkfifocbaaa.fl (fs.getD cur noS) (xss.getD cur []))) (W.setCell ⟨g11, cur, none⟩ u) := by
  obtain ⟨r, h1⟩ := h.b
  obtain ⟨r6, h6⟩ := h.o.f
  obtain ⟨r7, h7⟩ := h.o.b
  have n6 : g6 ≠ g11 := by
    intro e; subst e
    rw [h6, strO, ssO] at h1
    simp at h1
  refine ⟨⟨⟨r6, (Below.heap_setCell _ _ _ g6 n6).trans h6⟩, h.o.fl, ⟨r7, (Below.heap_setCell _ _ _ g7 (fun e => h.ne (show g7 = g11 from e).symm)).trans h7⟩, h.o.ul, h.o.xl, fun i hi => (h.o.x i hi).set h1, h.o.gf, h.o.gx, bl_set h.o.be h.lo⟩,
    ⟨r, set_ssO h1 cur u (by rw [h.vl]; exact hc)⟩, h.ne, h.lo, by rw [List.length_set]; exact h.vl, by rw [List.length_set]; exact h.yl, fun i hi => ?_, fun i hi => ?_⟩
  · by_cases e : i = cur
    · subst e
      rw [List.getD_eq_getElem?_getD, List.getElem?_set_self (by rw [h.vl]; exact hi), List.getD_eq_getElem?_getD, List.getElem?_set_self (by rw [h.yl]; exact hi)]
      exact hu.set h1
    · rw [List.getD_eq_getElem?_getD, List.getElem?_set_ne (fun q => e q.symm), ← List.getD_eq_getElem?_getD, List.getD_eq_getElem?_getD (l := yss.set _ _), List.getElem?_set_ne (fun q => e q.symm), ← List.getD_eq_getElem?_getD]
      exact (h.x i hi).set h1
  · by_cases e : i = cur
    · subst e
      rw [List.getD_eq_getElem?_getD, List.getElem?_set_self (by rw [h.yl]; exact hi), if_pos ⟨hl, Nat.lt_succ_self _⟩]
      rfl
    · rw [List.getD_eq_getElem?_getD, List.getElem?_set_ne (fun q => e q.symm), ← List.getD_eq_getElem?_getD, h.y i hi]
      by_cases q : lost < i ∧ i < cur
      · rw [if_pos q, if_pos ⟨q.1, by omega⟩]
      · rw [if_neg q, if_neg (by omega)]
theorem S0.forms {w W : World} {N g6 g7 c : Nat} {fs : List ByteArray} {us : List Value} {xss : List (List ByteArray)} (h : S0 w N fs us xss g6 g7 W) : strsV W (.slice (some ⟨g6, 0, none⟩) N c) fs := by
  obtain ⟨r6, h6⟩ := h.f
  refine ⟨_, c, by rw [h.fl], fun _ => ⟨g6, 0, rfl, (Array.getElem?_eq_some_iff.1 h6).1, fun i hi => by rw [Nat.zero_add]; exact cell_strO h6 i hi⟩⟩
theorem lss_ssO {W : World} {g N c : Nat} {us rest : List Value} {xss : List (List ByteArray)} (h : W.heap[g]? = some (ssO us rest)) (hu : us.length = N) (hx : xss.length = N) (hh : ∀ i, i < N → LX W (us.getD i noV) (xss.getD i [])) : lssV W (.slice (some ⟨g, 0, none⟩) N c) xss :=
  ⟨_, c, by rw [hx], fun _ => ⟨g, 0, rfl, (Array.getElem?_eq_some_iff.1 h).1, fun i hi => ⟨us.getD i noV, by rw [Nat.zero_add]; exact cell_ssO h i (by omega), (hh i (by omega)).strs⟩⟩⟩
end Go.Proofs.Ytecgfkfifocbaaa
