/- A message's bytes, as the specification has them. -/
import Derived.Test.YtgdohkemamlnhaaDoorNum
namespace Go.Proofs.YtgdohkemamlnhaaDoor
open Go.RowKit
set_option maxHeartbeats 4000000
set_option maxRecDepth 20000
theorem own_below {w w' : World} {base e size n : Nat} {v : Value} {xs : List Value} (h : w.ownsRow base e size v n xs) (hb : Below w.heap.size w w') : w'.ownsRow base e size v n xs := by
  refine ⟨h.1, ?_⟩
  rcases h.2 with h | ⟨g, c, cur, hv, hg, hh, h1, h2, h3, ht⟩
  · exact .inl h
  · exact .inr ⟨g, c, cur, hv, hg, (hb.block g (Array.getElem?_eq_some_iff.1 hh).1).trans hh, h1, h2, h3, ht⟩
theorem own_lower {w : World} {base base' e size n : Nat} {v : Value} {xs : List Value} (h : w.ownsRow base e size v n xs) (hb : base' ≤ base) : w.ownsRow base' e size v n xs := by
  refine ⟨h.1, ?_⟩
  rcases h.2 with h | ⟨g, c, cur, hv, hg, hh, h1, h2, h3, ht⟩
  · exact .inl h
  · exact .inr ⟨g, c, cur, hv, by omega, hh, h1, h2, h3, ht⟩
theorem own_bytes {w : World} {base n : Nat} {v : Value} {xs : List Int} (h : w.ownsRow base 5 1 v n (xs.map (Value.int .u8))) (hv : ∃ g c, v = .slice (some ⟨g, 0, none⟩) n c) (hl : xs.length = n) (hB : isB xs) : bytesV w v xs := by
  obtain ⟨g, cap, rest, rfl, _, hlt, _, hr⟩ := own_rowB h hv
  exact ⟨_, cap, by rw [hl], hB, fun _ => ⟨g, 0, rfl, hlt, fun i hi => by rw [Nat.zero_add]; exact cell_rowObj hr i hi⟩⟩
theorem num4_isB (n : Int) : isB (num4 n) := by
  intro x hx
  simp only [num4, List.mem_cons, List.not_mem_nil, or_false] at hx
  rcases hx with rfl | rfl | rfl | rfl <;> omega
theorem num2_isB (n : Int) : isB (num2 n) := by
  intro x hx
  simp only [num2, List.mem_cons, List.not_mem_nil, or_false] at hx
  rcases hx with rfl | rfl <;> omega
theorem msg_cells (w : World) (r s a : Int) (d b : ByteArray) : (w.alloc (.cells #[.int .i64 r, .int .i64 s, .int .i64 a, .string d, .string b] 24)).cell? ⟨w.heap.size, 0, none⟩ = some (.int .i64 r) ∧ (w.alloc (.cells #[.int .i64 r, .int .i64 s, .int .i64 a, .string d, .string b] 24)).cell? ⟨w.heap.size, 1, none⟩ = some (.int .i64 s) ∧ (w.alloc (.cells #[.int .i64 r, .int .i64 s, .int .i64 a, .string d, .string b] 24)).cell? ⟨w.heap.size, 2, none⟩ = some (.int .i64 a) ∧ (w.alloc (.cells #[.int .i64 r, .int .i64 s, .int .i64 a, .string d, .string b] 24)).cell? ⟨w.heap.size, 3, none⟩ = some (.string d) ∧ (w.alloc (.cells #[.int .i64 r, .int .i64 s, .int .i64 a, .string d, .string b] 24)).cell? ⟨w.heap.size, 4, none⟩ = some (.string b) := by
  refine ⟨?_, ?_, ?_, ?_, ?_⟩ <;> rw [Go.cell_of_row _ _ _ _ _ _ (heap_alloc_new w _)] <;> rfl
/-- the cells of a message in block p -/
structure MC (p : Nat) (r s a : Int) (d b : ByteArray) (W : World) : Prop where
  lt : p < W.heap.size
  c0 : W.cell? ⟨p, 0, none⟩ = some (.int .i64 r)
  c1 : W.cell? ⟨p, 1, none⟩ = some (.int .i64 s)
  c2 : W.cell? ⟨p, 2, none⟩ = some (.int .i64 a)
  c3 : W.cell? ⟨p, 3, none⟩ = some (.string d)
  c4 : W.cell? ⟨p, 4, none⟩ = some (.string b)
theorem MC.below {p : Nat} {r s a : Int} {d b : ByteArray} {W W' : World} (h : MC p r s a d b W) (hb : Below W.heap.size W W') : MC p r s a d b W' :=
  ⟨Nat.lt_of_lt_of_le h.lt hb.size, (cell_below hb h.lt).trans h.c0, (cell_below hb h.lt).trans h.c1, (cell_below hb h.lt).trans h.c2, (cell_below hb h.lt).trans h.c3, (cell_below hb h.lt).trans h.c4⟩
theorem cellB {B b i : Nat} {w w' : World} (hb : Below B w w') (h : b < B) : w'.cell? ⟨b, i, none⟩ = w.cell? ⟨b, i, none⟩ := by
  unfold World.cell?
  rw [show (⟨b, i, none⟩ : Addr).block = b from rfl, hb.block b h]
theorem MC.belowB {p B : Nat} {r s a : Int} {d b : ByteArray} {W W' : World} (h : MC p r s a d b W) (hb : Below B W W') (hp : p < B) : MC p r s a d b W' :=
  ⟨Nat.lt_of_lt_of_le h.lt hb.size, (cellB hb hp).trans h.c0, (cellB hb hp).trans h.c1, (cellB hb hp).trans h.c2, (cellB hb hp).trans h.c3, (cellB hb hp).trans h.c4⟩
theorem bytes_new (W : World) (x : Int) (hx : 0 ≤ x ∧ x < 256) : bytesV (W.alloc (.cells #[.int .u8 x] 5)) (.slice (some ⟨W.heap.size, 0, none⟩) 1 1) [x] :=
  ⟨_, 1, rfl, (fun y hy => by simp at hy; subst hy; exact hx), fun _ => ⟨W.heap.size, 0, rfl, by simp, fun i hi => by
    have hi' : i < 1 := hi
    obtain rfl : i = 0 := by omega
    rw [Go.cell_of_row _ _ _ _ _ _ (heap_alloc_new W _)]; rfl⟩⟩
theorem bytes_len (W : World) (n : Nat) (h : n < 256) : bytesV (W.alloc (.cells #[.int .u8 (IntKind.u8.wrap (n : Int))] 5)).drew (.slice (some ⟨W.heap.size, 0, none⟩) 1 1) [(n : Int)] := by
  have e : IntKind.u8.wrap (n : Int) = (n : Int) := by rw [IntKind.wrap_u8']; omega
  rw [e]
  exact bytes_new W n (by omega)
theorem undrew {w X : World} (h : Below w.drew.heap.size w.drew X) : Below w.heap.size w X := ⟨h.os, h.tape, h.output, h.size, h.block⟩
/-- a text's bytes as numbers -/
def txt (t : ByteArray) : List Int := t.data.toList.map fun b => (b.toNat : Int)
theorem txt_len (t : ByteArray) : (txt t).length = t.size := by rw [txt, List.length_map, Array.length_toList]; rfl
theorem txt_isB (t : ByteArray) : isB (txt t) := by
  intro x hx
  obtain ⟨b, _, rfl⟩ := List.mem_map.1 hx
  have := UInt8.toNat_lt b
  omega
theorem strCells_txt (t : ByteArray) : Lib.strCells t = (txt t).map (Value.int .u8) := by
  rw [Lib.strCells, txt, List.map_map]; rfl
theorem step_append_text (w : World) {ops : Array Oper} {o : Oper} {a : Act} {K : Act → World → Prop} {Q : Exit → Act → World → Prop} {E : Prop} (hgd : o.guard = none) (s x : Operand)
    (ho : o.op = .call { callee := .builtin .append, args := #[s, x], argTypes := #[22, 9] })
    (base k : Nat) (v : Value) (xs : List Int) (hs : a.eval s = v) (hown : w.ownsRow base 5 1 v k (xs.map (Value.int .u8))) (hv : ∃ g c, v = .slice (some ⟨g, 0, none⟩) k c) (t : ByteArray) (hxv : a.eval x = .string t) (hm : k + t.size ≤ 4194304) (hbase : base ≤ w.heap.size)
    (h : ∀ (g c : Nat) (w' : World), w'.ownsRow base 5 1 (.slice (some ⟨g, 0, none⟩) (k + t.size) c) (k + t.size) ((xs ++ txt t).map (Value.int .u8)) → w.grownBy w' v.ownBlock → K (a.put o.dst (.slice (some ⟨g, 0, none⟩) (k + t.size) c)) w') :
    if Region.wanted o (yielded ops a.tmps) = true then Oper.wp Tryd.prog o a w K Q else E := by
  have hw : Region.wanted o (yielded ops a.tmps) = true := by simp [Region.wanted, hgd]
  rw [if_pos hw]
  obtain ⟨i0, hi0, hz0, hz1, hz2⟩ := info_parts info5
  obtain ⟨v', w', hr, h2, h4, h5⟩ := Lib.run_append_own_string (P := Tryd.prog) w base 22 9 o.type 5 i0 Tryd.underlying22 Tryd.underlying9 hi0 hz0 hz1 hz2 v k _ hown t (by unfold maxLen; omega) (by omega) hbase
  have hv' : ∃ g c, v' = .slice (some ⟨g, 0, none⟩) (k + t.size) c := by
    rcases h2.2 with ⟨e, _⟩ | ⟨g, c, _, e, _⟩
    · obtain ⟨e2, _⟩ := h5.1 e
      obtain ⟨g, c, e3⟩ := hv
      rw [e3] at e2
      simp at e2
    · exact ⟨g, c, e⟩
  obtain ⟨g, c, rfl⟩ := hv'
  rw [strCells_txt, ← List.map_append] at h2
  unfold Oper.wp execOp
  simp only [ho, resolve, invoke, builtin, Sem.run_bind, Sem.run_pure, Result.andThen_ok, List.map_toArray, List.map_cons, List.map_nil, hs, hxv, hr]
  exact h g c w' h2 h4
theorem step_append_bytes (w : World) {ops : Array Oper} {o : Oper} {a : Act} {K : Act → World → Prop} {Q : Exit → Act → World → Prop} {E : Prop} (hgd : o.guard = none) (s x : Operand)
    (ho : o.op = .call { callee := .builtin .append, args := #[s, x], argTypes := #[22, 22] })
    (base k : Nat) (v : Value) (xs : List Int) (hs : a.eval s = v) (hown : w.ownsRow base 5 1 v k (xs.map (Value.int .u8))) (hv : ∃ g c, v = .slice (some ⟨g, 0, none⟩) k c) (u : Value) (ys : List Int) (hxv : a.eval x = u) (hu : bytesV w u ys) (hm : k + ys.length ≤ 4194304) (hbase : base ≤ w.heap.size)
    (h : ∀ (g c : Nat) (w' : World), w'.ownsRow base 5 1 (.slice (some ⟨g, 0, none⟩) (k + ys.length) c) (k + ys.length) ((xs ++ ys).map (Value.int .u8)) → w.grownBy w' v.ownBlock → K (a.put o.dst (.slice (some ⟨g, 0, none⟩) (k + ys.length) c)) w') :
    if Region.wanted o (yielded ops a.tmps) = true then Oper.wp Tryd.prog o a w K Q else E := by
  have hw : Region.wanted o (yielded ops a.tmps) = true := by simp [Region.wanted, hgd]
  rw [if_pos hw]
  obtain ⟨g, c, w', hr, h2, h4⟩ := run_append_bytes w o.type base k v xs hown hv u ys hu hm hbase
  unfold Oper.wp execOp
  simp only [ho, resolve, invoke, builtin, Sem.run_bind, Sem.run_pure, Result.andThen_ok, List.map_toArray, List.map_cons, List.map_nil, hs, hxv, hr]
  exact h g c w' h2 h4
/-- a message's bytes -/
def mB (r s a : Int) (d b : ByteArray) : List Int := num4 r ++ num2 s ++ num2 a ++ txt d ++ [(b.size : Int)] ++ txt b ++ List.replicate (47 - b.size) 0
theorem mB_len (r s a : Int) (d b : ByteArray) (hd : d.size = 8) (hb : b.size ≤ 40) : (mB r s a d b).length = 64 := by
  simp [mB, num4, num2, txt_len, hd]; omega
theorem mB_isB (r s a : Int) (d b : ByteArray) (hb : b.size ≤ 40) : isB (mB r s a d b) := by
  intro x hx
  simp only [mB, List.mem_append, List.mem_singleton, List.mem_replicate] at hx
  rcases hx with (((((h | h) | h) | h) | h) | h) | h
  · exact num4_isB r x h
  · exact num2_isB s x h
  · exact num2_isB a x h
  · exact txt_isB d x h
  · omega
  · exact txt_isB b x h
  · omega
theorem by20 (r s a : Int) (d b : ByteArray) (hd : d.size = 8) (hb : b.size ≤ 40) (w : World) :
    Calls Tryd.prog 42 #[msgV r s a d b] w fun e w' => ∃ v, e = .returned v ∧ ownB w.heap.size w' v (mB r s a d b) ∧ Below w.heap.size w w' := by
  have mc : MC w.heap.size r s a d b (w.alloc (.cells #[.int .i64 r, .int .i64 s, .int .i64 a, .string d, .string b] 24)) := by
    obtain ⟨h0, h1, h2, h3, h4⟩ := msg_cells w r s a d b
    exact ⟨by simp, h0, h1, h2, h3, h4⟩
  have b0 : Below w.heap.size w (w.alloc (.cells #[.int .i64 r, .int .i64 s, .int .i64 a, .string d, .string b] 24)) := (Below.refl _ _).alloc (Nat.le_refl _) _
  go_enter Tryd.func42, Tryd.ntmps42
  go_wp2
  generalize w.alloc (.cells #[.int .i64 r, .int .i64 s, .int .i64 a, .string d, .string b] 24) = w0 at *
  have MC0 := hide mc
  have B0 := hide b0
  obtain ⟨hlt, c0, c1, c2, c3, c4⟩ := mc
  clear b0 hlt c2 c3 c4
  have L0 := hide (unhide B0).size
  go_region_held3 (fun w' => w'.cell? ⟨w.heap.size, 0, none⟩ = some (.int .i64 r) ∧ w'.cell? ⟨w.heap.size, 1, none⟩ = some (.int .i64 s)) (first | exact d3 | exact d2 | exact d1 | exact ⟨c0, c1⟩ | assumption)
    (first
      | (go_at_call_of 61 (Value.int .i64 r); refine (num24_4 r _).mono ?_; rintro e w1 ⟨v1, rfl, o1, f1, b1⟩; have d1 : w1.cell? ⟨w.heap.size, 0, none⟩ = some (.int .i64 r) ∧ w1.cell? ⟨w.heap.size, 1, none⟩ = some (.int .i64 s) := ⟨(cell_below b1 (unhide MC0).lt).trans c0, (cell_below b1 (unhide MC0).lt).trans c1⟩)
      | (go_at_call_of 61 (Value.int .i64 s); refine (num24_2 s _).mono ?_; rintro e w2 ⟨v2, rfl, o2, f2, b2⟩; have d2 : w2.cell? ⟨w.heap.size, 0, none⟩ = some (.int .i64 r) ∧ w2.cell? ⟨w.heap.size, 1, none⟩ = some (.int .i64 s) := ⟨(cell_below b2 (Nat.lt_of_lt_of_le (unhide MC0).lt b1.size)).trans d1.1, (cell_below b2 (Nat.lt_of_lt_of_le (unhide MC0).lt b1.size)).trans d1.2⟩)
      | (refine step_append_bytes _ (by rfl) _ _ (by rfl) w0.heap.size 4 v1 (num4 r) (by rfl) (own_below o1 b2) f1 v2 (num2 s) (by rfl) (own_bytes o2 f2 rfl (num2_isB s)) (by show 4 + 2 ≤ 4194304; omega) (Nat.le_trans b1.size b2.size) ?_; intro g3 c3 w3 o3 gr3; have b3 : Below w0.heap.size w0 w3 := Below.grown (undrew (b1.trans (b2.mono b1.size))) gr3 (Nat.le_trans b1.size b2.size) (fun k hk => (o1.lt k hk).1); have d3 : w3.cell? ⟨w.heap.size, 0, none⟩ = some (.int .i64 r) ∧ w3.cell? ⟨w.heap.size, 1, none⟩ = some (.int .i64 s) := ⟨(cell_below b3 (unhide MC0).lt).trans c0, (cell_below b3 (unhide MC0).lt).trans c1⟩))
  have o3' : w3.ownsRow w0.heap.size 5 1 (.slice (some ⟨g3, 0, none⟩) 6 c3) 6 ((num4 r ++ num2 s).map (Value.int .u8)) := o3
  rw [show 4 + (num2 s).length = 6 from rfl]
  have MC3 := hide ((unhide MC0).below b3)
  have B3 := hide ((unhide B0).trans (b3.mono (unhide L0)))
  have O3 := hide o3'
  have L3 := hide b3.size
  clear o1 f1 b1 d1 o2 f2 b2 d2 gr3 b3 d3 o3 o3' c0 c1 
  obtain ⟨hlt, _, _, c2, c3, c4⟩ := unhide MC3
  clear hlt c4
  go_wp2
  go_region_held3 (fun w' => w'.cell? ⟨w.heap.size, 2, none⟩ = some (.int .i64 a) ∧ w'.cell? ⟨w.heap.size, 3, none⟩ = some (.string d)) (first | exact d6 | exact d5 | exact d4 | exact ⟨c2, c3⟩ | assumption)
    (first
      | (go_at_call_of 61 (Value.int .i64 a); refine (num24_2 a _).mono ?_; rintro e w4 ⟨v4, rfl, o4, f4, b4⟩; have d4 : w4.cell? ⟨w.heap.size, 2, none⟩ = some (.int .i64 a) ∧ w4.cell? ⟨w.heap.size, 3, none⟩ = some (.string d) := ⟨(cell_below b4 (unhide MC3).lt).trans c2, (cell_below b4 (unhide MC3).lt).trans c3⟩)
      | (refine step_append_bytes _ (by rfl) _ _ (by rfl) w0.heap.size 6 _ (num4 r ++ num2 s) (by rfl) (own_below (unhide O3) (undrew b4)) ⟨_, _, rfl⟩ v4 (num2 a) (by rfl) (own_bytes o4 f4 rfl (num2_isB a)) (by show 6 + 2 ≤ 4194304; omega) (Nat.le_trans (unhide L3) b4.size) ?_; intro g5 c5 w5 o5 gr5; have b5 : Below w0.heap.size w3 w5 := Below.grown ((undrew b4).mono (unhide L3)) gr5 (Nat.le_trans (unhide L3) b4.size) (fun k hk => ((unhide O3).lt k hk).1); have d5 : w5.cell? ⟨w.heap.size, 2, none⟩ = some (.int .i64 a) ∧ w5.cell? ⟨w.heap.size, 3, none⟩ = some (.string d) := ⟨(cellB b5 (unhide MC0).lt).trans c2, (cellB b5 (unhide MC0).lt).trans c3⟩)
      | (refine step_append_text _ (by rfl) _ _ (by rfl) w0.heap.size 8 _ (num4 r ++ num2 s ++ num2 a) (by rfl) o5 ⟨_, _, rfl⟩ d (by rfl) (by omega) (by have := b5.size; have := unhide L3; omega) ?_; intro g6 c6 w6 o6 gr6; have b6 : Below w0.heap.size w3 w6 := Below.grown b5 gr6 (Nat.le_trans (unhide L3) b5.size) (fun k hk => (o5.lt k hk).1); have d6 : w6.cell? ⟨w.heap.size, 2, none⟩ = some (.int .i64 a) ∧ w6.cell? ⟨w.heap.size, 3, none⟩ = some (.string d) := ⟨(cellB b6 (unhide MC0).lt).trans c2, (cellB b6 (unhide MC0).lt).trans c3⟩))
  rw [show 6 + (num2 a).length = 8 from rfl]
  rw [hd] at o6 ⊢
  have MC6 := hide ((unhide MC3).belowB b6 (unhide MC0).lt)
  have B6 := hide ((unhide B3).trans (b6.mono (unhide L0)))
  have O6 := hide o6
  have L6 := hide (Nat.le_trans (unhide L3) b6.size)
  clear o4 f4 b4 d4 o5 gr5 b5 d5 gr6 b6 d6 o6 c2 c3
  obtain ⟨hlt, _, _, _, _, c4⟩ := unhide MC6
  clear hlt
  have z0 : (0 : Int) ≤ (b.size : Int) := by omega
  have z1 : (b.size : Int) ≤ 40 := by omega
  go_wp2
  go_region_held3 (fun w' => w'.cell? ⟨w.heap.size, 4, none⟩ = some (.string b)) (first | exact d8 | exact d7 | exact c4 | go_keep | assumption)
    (first
      | (refine step_append_bytes _ (by rfl) _ _ (by rfl) w0.heap.size 16 _ (num4 r ++ num2 s ++ num2 a ++ txt d) (by rfl) ((unhide O6).alloc _) ⟨_, _, rfl⟩ _ [(b.size : Int)] (by rfl) (bytes_len w6 b.size (by omega)) (by show 16 + 1 ≤ 4194304; omega) (by have := unhide L6; show w0.heap.size ≤ (w6.alloc _).heap.size; simp; omega) ?_; intro g7 c7 w7 o7 gr7; have b7 : Below w0.heap.size w6 w7 := Below.grown (below_drewN ((Below.refl _ _).alloc (unhide L6) _) 1) gr7 (by have := unhide L6; show w0.heap.size ≤ (w6.alloc _).heap.size; simp; omega) (fun k hk => ((unhide O6).lt k hk).1); have d7 : w7.cell? ⟨w.heap.size, 4, none⟩ = some (.string b) := (cellB b7 (unhide MC0).lt).trans c4)
      | (refine step_append_text _ (by rfl) _ _ (by rfl) w0.heap.size 17 _ (num4 r ++ num2 s ++ num2 a ++ txt d ++ [(b.size : Int)]) (by rfl) o7 ⟨_, _, rfl⟩ b (by rfl) (by omega) (Nat.le_trans (unhide L6) b7.size) ?_; intro g8 c8 w8 o8 gr8; have b8 : Below w0.heap.size w6 w8 := Below.grown b7 gr8 (Nat.le_trans (unhide L6) b7.size) (fun k hk => (o7.lt k hk).1); have d8 : w8.cell? ⟨w.heap.size, 4, none⟩ = some (.string b) := (cellB b8 (unhide MC0).lt).trans c4))
  rw [show 16 + [(b.size : Int)].length = 17 from rfl]
  have B8 := hide ((unhide B6).trans (b8.mono (unhide L0)))
  have O8 := hide o8
  have L8 := hide (Nat.le_trans (unhide L6) b8.size)
  clear o7 gr7 b7 d7 gr8 b8 d8 o8 c4
  have ez : (64 : Int) - (17 + (b.size : Int)) = ((47 - b.size : Nat) : Int) := by omega
  have ez2 : (64 : Int) - ((17 + b.size : Nat) : Int) = ((47 - b.size : Nat) : Int) := by omega
  go_wp2_with (at_builtin; refine wpList_append_zeros _ rfl _ _ rfl w0.heap.size (17 + b.size) (47 - b.size) _ _ rfl (unhide O8) ⟨_, _, rfl⟩ rfl (by omega) (unhide L8) ?_; intro g9 c9 w9 o9 gr9)
  have b9 : Below w.heap.size w w9 := Below.grown (unhide B8) gr9 (Nat.le_trans (unhide L0) (unhide L8)) (fun k hk => Nat.le_trans (unhide L0) ((unhide O8).lt k hk).1)
  go_ret
  obtain ⟨g', c', rest, hval, hgb, hgl, hcap, hrow⟩ := own_rowB o9 ⟨_, _, rfl⟩
  have hlen := mB_len r s a d b hd hb
  refine ⟨_, rfl, ⟨mB_isB r s a d b hb, .inr ⟨g', c', rest, ?_, Nat.le_trans (unhide L0) hgb, hrow, ?_⟩⟩, b9⟩
  · rw [hlen]
    rw [show 17 + b.size + (47 - b.size) = 64 by omega] at hval
    refine Eq.trans ?_ hval
    show Value.slice (some ⟨g9, 0, none⟩) (17 + b.size + (47 - b.size)) c9 = _
    rw [show 17 + b.size + (47 - b.size) = 64 by omega]
  · rw [hlen]; omega
end Go.Proofs.YtgdohkemamlnhaaDoor
