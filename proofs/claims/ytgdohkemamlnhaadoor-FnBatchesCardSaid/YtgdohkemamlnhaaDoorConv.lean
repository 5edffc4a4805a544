/- Texts as bytes, copies, slices.Concat of six. -/
import Derived.Test.YtgdohkemamlnhaaDoorCat
import Derived.Laws.IdiomStrings
namespace Go.Proofs.YtgdohkemamlnhaaDoor
open Go.RowKit
set_option maxHeartbeats 40000000
set_option maxRecDepth 20000
/-- the world behind '[]byte(t)' -/
def cvW (w : World) (t : ByteArray) : World := w.drew.alloc (.cells (bytesRow t (grownCap w t.size 0 5)) 5 ((bytesRow t (grownCap w t.size 0 5)).size, (bytesRow t (grownCap w t.size 0 5)).size + 1))
theorem run_cv (w : World) (t : ByteArray) : (convert 9 22 (.string t)).run Tryd.prog w = .ok (.slice (some ⟨w.heap.size, 0, none⟩) t.size (grownCap w t.size 0 5)) (cvW w t) :=
  run_bytes_of_string w 9 22 5 t Tryd.underlying9 Tryd.underlying22 Tryd.underlying5
theorem bl_al {w X : World} {o : Obj} (h : Below w.heap.size w X) : Below w.heap.size w (X.alloc o) := h.alloc h.size o
theorem bl_dr {w X : World} (h : Below w.heap.size w X) : Below w.heap.size w X.drew := below_drewN h 1
theorem bl_cv {w X : World} {t : ByteArray} (h : Below w.heap.size w X) : Below w.heap.size w (cvW X t) := (bl_dr h).alloc h.size _
theorem bl_st {w X Y : World} (hb : Below X.heap.size X Y) (h : Below w.heap.size w X) : Below w.heap.size w Y := h.trans (hb.mono h.size)
theorem by_st {X Y : World} {v : Value} {xs : List Int} (hb : Below X.heap.size X Y) (h : bytesV X v xs) : bytesV Y v xs := h.below hb
theorem by_al {X : World} {o : Obj} {v : Value} {xs : List Int} (h : bytesV X v xs) : bytesV (X.alloc o) v xs := h.below (bl_al (Below.refl _ _))
theorem by_dr {X : World} {v : Value} {xs : List Int} (h : bytesV X v xs) : bytesV X.drew v xs := h.below (bl_dr (Below.refl _ _))
theorem by_cvo {X : World} {t : ByteArray} {v : Value} {xs : List Int} (h : bytesV X v xs) : bytesV (cvW X t) v xs := h.below (bl_cv (Below.refl _ _))
theorem by_cv (w : World) (t : ByteArray) : bytesV (cvW w t) (.slice (some ⟨w.heap.size, 0, none⟩) t.size (grownCap w t.size 0 5)) (txt t) := by
  refine ⟨_, _, by rw [txt_len], txt_isB t, fun _ => ⟨w.heap.size, 0, rfl, by simp [cvW], fun i hi => ?_⟩⟩
  rw [txt_len] at hi
  have hi' : i < t.data.size := hi
  have hh : (cvW w t).heap[w.heap.size]? = some (.cells (bytesRow t (grownCap w t.size 0 5)) 5 ((bytesRow t (grownCap w t.size 0 5)).size, (bytesRow t (grownCap w t.size 0 5)).size + 1)) := heap_at w.drew _ _ rfl
  rw [Go.cell_of_row _ _ _ _ _ _ hh, Nat.zero_add, bytesRow_at t _ i hi']
  unfold txt
  rw [List.getD_eq_getElem?_getD, List.getElem?_map, List.getElem?_eq_getElem (by simpa using hi')]
  rfl
theorem step_copy (w : World) {ops : Array Oper} {o : Oper} {a : Act} {K : Act → World → Prop} {Q : Exit → Act → World → Prop} {E : Prop} (hgd : o.guard = none) (s x : Operand)
    (ho : o.op = .call { callee := .builtin .copy, args := #[s, x], argTypes := #[22, 22] })
    (g n : Nat) (zs : List Int) (hz : zs.length = n) (hs : a.eval s = .slice (some ⟨g, 0, none⟩) n n) (hg : w.heap[g]? = some (rowObj 5 .u8 zs [])) (u : Value) (ys : List Int) (hx : a.eval x = u) (hu : bytesV w u ys) (h0 : 0 < ys.length) (hl : ys.length ≤ zs.length)
    (h : ∀ w', w' = w.setRow g ((ys ++ zs.drop ys.length).map (Value.int .u8) ++ []).toArray → K (a.put o.dst (goInt ys.length)) w') :
    if Region.wanted o (yielded ops a.tmps) = true then Oper.wp Tryd.prog o a w K Q else E := by
  have hw : Region.wanted o (yielded ops a.tmps) = true := by simp [Region.wanted, hgd]
  rw [if_pos hw]
  subst hz
  obtain ⟨A, cap, rfl, hB, hc⟩ := hu
  obtain ⟨b, off, rfl, hlt, hcc⟩ := hc h0
  have hcs : ∀ j v, (ys.map (Value.int .u8))[j]? = some v → w.cell? ((⟨b, off, none⟩ : Addr).add j) = some v := by
    intro j v hj
    rw [List.getElem?_map] at hj
    have hl : j < ys.length := by
      rcases Nat.lt_or_ge j ys.length with h | h
      · exact h
      · rw [List.getElem?_eq_none h] at hj; cases hj
    rw [List.getElem?_eq_getElem hl] at hj
    cases hj
    rw [Addr.add_lit, hcc j hl, List.getD_eq_getElem?_getD, List.getElem?_eq_getElem hl]
    rfl
  have hr := run_copy_row (P := Tryd.prog) w 22 22 o.type 5 g 0 zs.length zs.length ⟨b, off, none⟩ ys.length cap _ 5 (ys.map (Value.int .u8)) Tryd.underlying22 (by obtain ⟨i0, hi0, _, hz1, _⟩ := info_parts info5; rw [hi0]; exact congrArg some hz1) hg (by rw [List.length_map]; exact (Nat.min_eq_left hl).symm) hcs (by simp; omega) (fun v hv => by obtain ⟨y, _, rfl⟩ := List.mem_map.1 hv; rfl)
  have e1 : (((zs.map (Value.int .u8) ++ []).toArray).toList.take 0 ++ ys.map (Value.int .u8) ++ ((zs.map (Value.int .u8) ++ []).toArray).toList.drop (0 + (ys.map (Value.int .u8)).length)).toArray = ((ys ++ zs.drop ys.length).map (Value.int .u8) ++ []).toArray := by simp
  rw [e1, List.length_map] at hr
  unfold Oper.wp execOp
  simp only [ho, resolve, invoke, builtin, Sem.run_bind, Sem.run_pure, Result.andThen_ok, List.map_toArray, List.map_cons, List.map_nil, hs, hx, hr]
  exact h _ rfl
theorem cat6 (W : World) (q : Nat) (v0 v1 v2 v3 v4 v5 : Value) (x0 x1 x2 x3 x4 x5 : List Int) (hq : W.heap[q]? = some (.cells #[v0, v1, v2, v3, v4, v5] 22 (0, 0))) (b0 : bytesV W v0 x0) (b1 : bytesV W v1 x1) (b2 : bytesV W v2 x2) (b3 : bytesV W v3 x3) (b4 : bytesV W v4 x4) (b5 : bytesV W v5 x5)
    (h0 : 0 < (x0 ++ x1 ++ x2 ++ x3 ++ x4 ++ x5).length) (hT : (x0 ++ x1 ++ x2 ++ x3 ++ x4 ++ x5).length ≤ 4194304) :
    Calls Tryd.prog 39 #[.slice (some ⟨q, 0, none⟩) 6 6] W fun e w' => ∃ v, e = .returned v ∧ ownB W.heap.size w' v (x0 ++ x1 ++ x2 ++ x3 ++ x4 ++ x5) ∧ Below W.heap.size W w' := by
  have e : catL (fun i => [x0, x1, x2, x3, x4, x5].getD i []) 6 = x0 ++ x1 ++ x2 ++ x3 ++ x4 ++ x5 := by simp [catL]
  have := cat_any q 6 (fun i => [v0, v1, v2, v3, v4, v5].getD i undef) (fun i => [x0, x1, x2, x3, x4, x5].getD i []) W (Array.getElem?_eq_some_iff.1 hq).1 (by omega)
    (fun i hi => by
      rw [Go.cell_of_row _ _ _ _ _ _ hq]
      obtain rfl | rfl | rfl | rfl | rfl | rfl : i = 0 ∨ i = 1 ∨ i = 2 ∨ i = 3 ∨ i = 4 ∨ i = 5 := by omega
      all_goals rfl)
    (fun i hi => by
      obtain rfl | rfl | rfl | rfl | rfl | rfl : i = 0 ∨ i = 1 ∨ i = 2 ∨ i = 3 ∨ i = 4 ∨ i = 5 := by omega
      all_goals assumption) (by rw [e]; exact h0) (by rw [e]; exact hT)
  rw [e] at this
  exact this
end Go.Proofs.YtgdohkemamlnhaaDoor
