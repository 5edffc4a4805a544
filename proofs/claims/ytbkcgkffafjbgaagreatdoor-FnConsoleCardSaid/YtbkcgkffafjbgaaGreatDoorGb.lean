/- Texts at any place of a block of their own; marked. -/
import Derived.Test.YtbkcgkffafjbgaaGreatDoorGa
import Derived.Lib.UnsafeStr
import Derived.Lib.BufferWrite
import Derived.OwnWalk
/- Slices of strings: what they read as, which of them a call made; the laws' helpers over them. -/
namespace Go.Proofs.YtbkcgkffafjbgaaGreatDoor
open Go.RowKit
set_option maxHeartbeats 4000000
set_option maxRecDepth 20000
/-- a slice that reads as these strings -/
def strsV (w : World) (v : Value) (ts : List ByteArray) : Prop :=
  ∃ A cap, v = .slice A ts.length cap ∧ (0 < ts.length → ∃ b off, A = some ⟨b, off, none⟩ ∧ b < w.heap.size ∧ ∀ i, i < ts.length → w.cell? ⟨b, off + i, none⟩ = some (.string (ts.getD i noS)))
def strO (ts : List ByteArray) (rest : List Value) : Obj := .cells (ts.map Value.string ++ rest).toArray 9 (0, 0)
/-- strings in a block of their own, between lo and hi -/
def ownS (lo hi : Nat) (w : World) (v : Value) (ts : List ByteArray) : Prop :=
  (v = .slice none 0 0 ∧ ts = []) ∨ ∃ g cap rest, v = .slice (some ⟨g, 0, none⟩) ts.length cap ∧ lo ≤ g ∧ g < hi ∧ w.heap[g]? = some (strO ts rest) ∧ ts.length ≤ cap
theorem cell_strO {w : World} {g : Nat} {ts : List ByteArray} {rest : List Value} (h : w.heap[g]? = some (strO ts rest)) (i : Nat) (hi : i < ts.length) : w.cell? ⟨g, i, none⟩ = some (.string (ts.getD i noS)) := by
  unfold World.cell?
  rw [show (⟨g, i, none⟩ : Addr).block = g from rfl, h]
  simp [strO, hi, List.getElem?_append_left, List.getD]
theorem free_strO {w : World} {g : Nat} {ts : List ByteArray} {rest : List Value} (h : w.heap[g]? = some (strO ts rest)) (i : Nat) : w.frozen? ⟨g, i, none⟩ = false := by
  unfold World.frozen?
  rw [show (⟨g, i, none⟩ : Addr).block = g from rfl, h]
  simp [strO]
theorem set_strO {w : World} {g : Nat} {ts : List ByteArray} {rest : List Value} (h : w.heap[g]? = some (strO ts rest)) (i : Nat) (v : ByteArray) (hi : i < ts.length) : (w.setCell ⟨g, i, none⟩ (.string v)).heap[g]? = some (strO (ts.set i v) rest) := by
  have e : (ts.map Value.string ++ rest).set i (.string v) = (ts.set i v).map Value.string ++ rest := by
    rw [List.set_append_left _ _ (by simpa using hi), List.map_set]
  simp only [World.setCell, Array.getElem?_modify, if_true, h, Option.map_some, strO]
  simp [e]
theorem ownS.strs {lo hi : Nat} {w : World} {v : Value} {ts : List ByteArray} (h : ownS lo hi w v ts) : strsV w v ts := by
  obtain ⟨rfl, rfl⟩ | ⟨g, cap, rest, rfl, hg, hh, hc, hcp⟩ := h
  · exact ⟨none, 0, rfl, fun h => by simp at h⟩
  · exact ⟨_, _, rfl, fun _ => ⟨g, 0, rfl, (Array.getElem?_eq_some_iff.1 hc).1, fun i hi => by rw [Nat.zero_add]; exact cell_strO hc i hi⟩⟩
theorem strsV.below {w w' : World} {v : Value} {ts : List ByteArray} (h : strsV w v ts) (hb : Below w.heap.size w w') : strsV w' v ts := by
  obtain ⟨A, cap, rfl, hc⟩ := h
  refine ⟨A, cap, rfl, fun hn => ?_⟩
  obtain ⟨b, off, rfl, hl, hc⟩ := hc hn
  exact ⟨b, off, rfl, Nat.lt_of_lt_of_le hl hb.size, fun i hi => (cell_below hb hl).trans (hc i hi)⟩
theorem ownS.below {lo hi : Nat} {w w' : World} {v : Value} {ts : List ByteArray} (h : ownS lo hi w v ts) (hb : Below w.heap.size w w') : ownS lo hi w' v ts := by
  obtain h | ⟨g, cap, rest, rfl, hg, hh, hc, hcp⟩ := h
  · exact .inl h
  · exact .inr ⟨g, cap, rest, rfl, hg, hh, (hb.block g (Array.getElem?_eq_some_iff.1 hc).1).trans hc, hcp⟩
theorem info9 : (Tryz.prog.info? 9).map (fun i => (i.zero, i.size, i.bytes)) = some (some (.string ⟨#[]⟩), 1, 16) := by kernel_rfl
theorem make_strs (n : Nat) (hn : n ≤ 2097152) (w : World) : (Instr.makeSlice 23 (.int .i64 (n : Int)) (.int .i64 (n : Int))).run Tryz.prog w = .ok (.slice (some ⟨w.heap.size, 0, none⟩) n n) (w.alloc (strO (List.replicate n noS) [])) := by
  obtain ⟨k0, hk0, kz0, kz1, kz2⟩ := info_parts info9
  have h := run_makeSlice w (P := Tryz.prog) 23 9 k0 (.string ⟨#[]⟩) Tryz.underlying23 hk0 kz0 .i64 .i64 (n : Int) (n : Int) (by omega) (Int.le_refl _) (by rw [kz1]; omega) (by rw [kz2]; omega) (by omega)
  rw [kz1, Int.toNat_natCast, Nat.mul_one] at h
  rw [h, strO]
  congr 3
  apply Array.ext_getElem?
  intro i
  by_cases hi : i < n
  · simp [madeCells, Value.cells, hi, Nat.mod_one]
  · simp [madeCells, Value.cells, hi]
theorem ownS.lies {lo hi : Nat} {w : World} {v : Value} {ts : List ByteArray} (h : ownS lo hi w v ts) : liesIn lo hi v := by
  intro g hg
  obtain ⟨rfl, _⟩ | ⟨g', cap, rest, rfl, h1, h2, _⟩ := h
  · cases hg
  · cases hg; exact ⟨h1, h2⟩
def marksS (n : Nat) : List ByteArray := (List.range n).map fun i => mkT (1 + i)
theorem marksS_len (n : Nat) : (marksS n).length = n := by simp [marksS]
theorem marksS_at (n i : Nat) (h : i < n) : (marksS n).getD i noS = mkT (1 + i) := by
  rw [List.getD_eq_getElem?_getD, marksS, List.getElem?_map, List.getElem?_range h]; rfl
end Go.Proofs.YtbkcgkffafjbgaaGreatDoor
/- Texts appended, and where they lie. -/
namespace Go.Proofs.YtbkcgkffafjbgaaGreatDoor
open Go.RowKit
set_option maxHeartbeats 4000000
set_option maxRecDepth 20000
theorem str_one (ts : List ByteArray) : ∀ u ∈ ts.map Value.string, u.oneCell' = true := by
  intro u hu; obtain ⟨t, _, rfl⟩ := List.mem_map.1 hu; rfl
theorem str_cells {w : World} {b off : Nat} (ts : List ByteArray) (h : ∀ i, i < ts.length → w.cell? ⟨b, off + i, none⟩ = some (.string (ts.getD i noS))) : ∀ j u, (ts.map Value.string)[j]? = some u → w.cell? ((⟨b, off, none⟩ : Addr).add j) = some u := by
  intro j u hj
  rw [List.getElem?_map] at hj
  have hl : j < ts.length := by
    rcases Nat.lt_or_ge j ts.length with h | h
    · exact h
    · rw [List.getElem?_eq_none h] at hj; cases hj
  rw [List.getElem?_eq_getElem hl] at hj
  cases hj
  rw [Addr.add_lit, h j hl, List.getD_eq_getElem?_getD, List.getElem?_eq_getElem hl]
  rfl
theorem run_append_strsL (w : World) (ty base k : Nat) (v : Value) (ps : List ByteArray) (hown : w.ownsRow base 9 1 v k (ps.map Value.string)) (hv : ∃ g c, v = .slice (some ⟨g, 0, none⟩) k c) (u : Value) (qs : List ByteArray) (hu : strsV w u qs) (hm : k + qs.length ≤ 4194304) (hbase : base ≤ w.heap.size) :
    ∃ (g c : Nat) (w' : World), (Builtin.append_ #[23, 23] ty #[v, u]).run Tryz.prog w = .ok (.slice (some ⟨g, 0, none⟩) (k + qs.length) c) w' ∧ w'.ownsRow base 9 1 (.slice (some ⟨g, 0, none⟩) (k + qs.length) c) (k + qs.length) ((ps ++ qs).map Value.string) ∧ w.grownBy w' v.ownBlock ∧ (v.ownBlock = some g ∨ g = w.heap.size) := by
  obtain ⟨i0, hi0, hz0, hz1, hz2⟩ := info_parts info9
  obtain ⟨B, cbp, rfl, hc⟩ := hu
  rcases Nat.eq_zero_or_pos qs.length with e0 | h0
  · obtain rfl := List.length_eq_zero_iff.1 e0
    obtain ⟨g, c, rfl⟩ := hv
    have hk : k ≤ c := by
      rcases hown.2 with ⟨e, _⟩ | ⟨g', c', cur, e, _, _, h1, _⟩
      · simp at e
      · simp only [Value.slice.injEq] at e
        obtain ⟨_, _, rfl⟩ := e
        exact h1
    have hs : Src Tryz.prog i0.size 23 (.slice B 0 cbp) 0 [] w := by
      cases B with
      | none => exact Src.ofNil w Tryz.underlying23 cbp
      | some a => exact Src.ofSlice w Tryz.underlying23 a 0 cbp [] (by simp) (fun j u h => by simp at h) (fun u h => by cases h)
    have hr := run_append_room_src (P := Tryz.prog) w 23 23 ty 9 i0 Tryz.underlying23 hi0 g 0 k c _ 0 [] hs (by omega) (fun j h => by simp at h) (fun j h => by simp at h)
    exact ⟨g, c, w, hr, by rw [List.append_nil]; exact hown, World.grownBy.refl _ _, .inl rfl⟩
  · obtain ⟨b, off, rfl, hlt, hcc⟩ := hc h0
    obtain ⟨g, c, w', h1, h2, h3, h4, _⟩ := run_append_lies (P := Tryz.prog) w 23 ty base 9 i0 _ 1 16 Tryz.underlying23 hi0 hz0 hz1 hz2 rfl (by omega) v k (ps.map Value.string) hown ⟨b, off, none⟩ qs.length cbp (qs.map Value.string) (by simp) (str_cells qs hcc) (str_one qs) h0 (by unfold maxLen; omega) (by omega) hbase _ rfl
    exact ⟨g, c, w', h1, by rw [List.map_append]; exact h2, h3, h4⟩
theorem wpList_append_strsL (w : World) {ops : Array Oper} {rest : List Oper} {o : Oper} {a : Act} {Q : Exit → Act → World → Prop} (hgd : o.guard = none) (s x : Operand)
    (ho : o.op = .call { callee := .builtin .append, args := #[s, x], argTypes := #[23, 23] })
    (base k : Nat) (v : Value) (ps : List ByteArray) (hs : a.eval s = v) (hown : w.ownsRow base 9 1 v k (ps.map Value.string)) (hv : ∃ g c, v = .slice (some ⟨g, 0, none⟩) k c) (u : Value) (qs : List ByteArray) (hxv : a.eval x = u) (hu : strsV w u qs) (hm : k + qs.length ≤ 4194304) (hbase : base ≤ w.heap.size)
    (h : ∀ (g c : Nat) (w' : World), w'.ownsRow base 9 1 (.slice (some ⟨g, 0, none⟩) (k + qs.length) c) (k + qs.length) ((ps ++ qs).map Value.string) → w.grownBy w' v.ownBlock → (v.ownBlock = some g ∨ g = w.heap.size) → wpList Tryz.prog ops Q rest (a.put o.dst (.slice (some ⟨g, 0, none⟩) (k + qs.length) c)) w') : wpList Tryz.prog ops Q (o :: rest) a w :=
  wpList_plain hgd fun K hK => by
    obtain ⟨g, c, w', hr, h2, h4, h5⟩ := run_append_strsL w o.type base k v ps hown hv u qs hu hm hbase
    unfold Oper.wp execOp
    simp only [ho, resolve, invoke, builtin, Sem.run_bind, Sem.run_pure, Result.andThen_ok, List.map_toArray, List.map_cons, List.map_nil, hs, hxv, hr]
    exact hK _ _ (h g c w' h2 h4 h5)
theorem one_str (w : World) (t : ByteArray) : strsV (w.alloc (.cells #[.string t] 9)) (.slice (some ⟨w.heap.size, 0, none⟩) 1 1) [t] := by
  refine ⟨_, _, rfl, fun _ => ⟨w.heap.size, 0, rfl, by simp, fun i hi => ?_⟩⟩
  obtain rfl : i = 0 := by simpa using hi
  rw [Go.cell_of_row _ _ _ _ _ _ (heap_alloc_new w _)]; rfl
theorem one_row (w : World) (t : ByteArray) : (w.alloc (.cells #[.string t] 9)).ownsRow w.heap.size 9 1 (.slice (some ⟨w.heap.size, 0, none⟩) 1 1) 1 ([t].map Value.string) :=
  ⟨rfl, .inr ⟨w.heap.size, 1, #[.string t], rfl, Nat.le_refl _, heap_at _ _ _ rfl, Nat.le_refl _, by unfold maxLen; omega, rfl, rfl⟩⟩
end Go.Proofs.YtbkcgkffafjbgaaGreatDoor
/- Texts that are marked from any number on, and held. -/
namespace Go.Proofs.YtbkcgkffafjbgaaGreatDoor
open Go.RowKit
set_option maxHeartbeats 4000000
set_option maxRecDepth 20000
def marksK (K n : Nat) : List ByteArray := (List.range n).map fun i => mkT (K + i)
theorem marksK_len (K n : Nat) : (marksK K n).length = n := by simp [marksK]
theorem marksK_at (K n i : Nat) (h : i < n) : (marksK K n).getD i noS = mkT (K + i) := by
  rw [List.getD_eq_getElem?_getD, marksK, List.getElem?_map, List.getElem?_range h]; rfl
end Go.Proofs.YtbkcgkffafjbgaaGreatDoor
/- strings.Clone: the same text. -/
namespace Go.Proofs.YtbkcgkffafjbgaaGreatDoor
open Go.RowKit
set_option maxHeartbeats 4000000
set_option maxRecDepth 20000
theorem cells5 : Tryz.prog.cellsOf 5 = 1 := by kernel_rfl
theorem clone35 (t : ByteArray) (w : World) (h0 : 0 < t.size) (hl : t.size ≤ 2097152) :
    Calls Tryz.prog 82 #[.string t] w fun e w' => e = .returned (.string t) ∧ Below w.heap.size w w' := by
  obtain ⟨i0, hi0, _, hz1, _⟩ := info_parts info5
  have mk := make_bytes t.size hl w
  obtain ⟨w1, hw1⟩ : ∃ w1, w1 = w.alloc (rowObj 5 .u8 (List.replicate t.size 0) []) := ⟨_, rfl⟩
  have g1 : w1.heap[w.heap.size]? = some (rowObj 5 .u8 (List.replicate t.size 0) []) := by rw [hw1]; exact heap_at _ _ _ rfl
  rw [← hw1] at mk
  have B1 : Below w.heap.size w w1 := by rw [hw1]; exact bl_al (Below.refl _ _)
  have cp := Go.Lib.run_copy_row_string (P := Tryz.prog) w1 22 9 3 5 w.heap.size 0 t.size t.size t _ 5 Tryz.underlying22 (by rw [hi0]; exact congrArg some hz1) g1 (Nat.le_refl _) (by simp)
  obtain ⟨w2, hw2⟩ : ∃ w2, w2 = w1.setRow w.heap.size (((List.replicate t.size (0 : Int)).map (Value.int .u8) ++ []).toArray.toList.take 0 ++ Go.Lib.byteCells t.data.toList ++ ((List.replicate t.size (0 : Int)).map (Value.int .u8) ++ []).toArray.toList.drop (0 + t.size)).toArray := ⟨_, rfl⟩
  rw [← hw2] at cp
  have g2 : w2.heap[w.heap.size]? = some (.cells (Go.Lib.byteCells t.data.toList).toArray 5 (0, 0)) := by
    rw [hw2, get_setRow g1]
    simp
  have B2 : Below w.heap.size w w2 := by rw [hw2]; exact below_setRow B1 (Nat.le_refl _)
  have hlen : t.data.toList.length = t.size := by rw [Array.length_toList]; rfl
  have us := Go.Lib.run_unsafeString_row (P := Tryz.prog) w2 71 3 9 5 Tryz.underlying71 cells5 w.heap.size t.size (by
      unfold World.shape?
      rw [g2]
      simp [Go.Lib.byteCells, hlen]) t.data.toList (fun e => by rw [e] at hlen; simp at hlen; omega) (by omega) (by omega) (fun j x hx => by
      rw [Addr.add_lit, Nat.zero_add, Go.cell_of_row _ _ _ _ _ _ g2]
      rw [List.getElem?_toArray, Go.Lib.byteCells, List.getElem?_map, hx]
      rfl)
  rw [hlen] at us
  have q0 : ¬ ((t.size : Int) = 0) := by omega
  have q1 : (0 : Int) < (t.size : Int) := by omega
  have HB := hide (Go.Lib.below_freeze (p := ⟨w.heap.size, 0, none⟩) B2 (Nat.le_refl _) t.size)
  generalize w2.freeze ⟨w.heap.size, 0, none⟩ t.size = w3 at *
  clear g1 g2 B1 B2 hw1 hw2 h0 hl hi0 hlen
  go_enter Tryz.func82, Tryz.ntmps82
  go_wp2
  go_ret
  exact ⟨rfl, unhide HB⟩
theorem clone26 (t : ByteArray) (w : World) (h0 : 0 < t.size) (hl : t.size ≤ 2097152) :
    Calls Tryz.prog 64 #[.string t] w fun e w' => e = .returned (.string t) ∧ Below w.heap.size w w' := by
  have h := hide (clone35 t w h0 hl)
  clear h0 hl
  go_enter Tryz.func64, Tryz.ntmps64
  go_wp2_with fail
  refine (unhide h).mono ?_
  rintro e w1 ⟨rfl, b1⟩
  go_wp2
  go_ret
  exact ⟨rfl, b1⟩
end Go.Proofs.YtbkcgkffafjbgaaGreatDoor
/- Texts at any place of a block of their own; marked. -/
namespace Go.Proofs.YtbkcgkffafjbgaaGreatDoor
open Go.RowKit
set_option maxHeartbeats 4000000
set_option maxRecDepth 20000
/-- texts that lie in a block of their own, between lo and hi, from any place of it on -/
def ownG (lo hi : Nat) (w : World) (v : Value) (ts : List ByteArray) : Prop :=
  (v = .slice none 0 0 ∧ ts = []) ∨ ∃ g off cap cs, v = .slice (some ⟨g, off, none⟩) ts.length cap ∧ lo ≤ g ∧ g < hi ∧ w.heap[g]? = some (.cells cs 9 (0, 0)) ∧ ts.length ≤ cap ∧ ∀ i, i < ts.length → cs[off + i]? = some (.string (ts.getD i noS))
theorem ownG.strs {lo hi : Nat} {w : World} {v : Value} {ts : List ByteArray} (h : ownG lo hi w v ts) : strsV w v ts := by
  obtain ⟨rfl, rfl⟩ | ⟨g, off, cap, cs, rfl, hg, hh, hc, hcp, hi⟩ := h
  · exact ⟨none, 0, rfl, fun h => by simp at h⟩
  · exact ⟨_, _, rfl, fun _ => ⟨g, off, rfl, (Array.getElem?_eq_some_iff.1 hc).1, fun i h => by rw [row_cell hc]; exact hi i h⟩⟩
theorem ownG.below {lo hi : Nat} {w w' : World} {v : Value} {ts : List ByteArray} (h : ownG lo hi w v ts) (hb : Below w.heap.size w w') : ownG lo hi w' v ts := by
  obtain h | ⟨g, off, cap, cs, rfl, hg, hh, hc, hcp, hi⟩ := h
  · exact .inl h
  · exact .inr ⟨g, off, cap, cs, rfl, hg, hh, (hb.block g (Array.getElem?_eq_some_iff.1 hc).1).trans hc, hcp, hi⟩
theorem ownG.wide {lo hi lo' hi' : Nat} {w : World} {v : Value} {ts : List ByteArray} (h : ownG lo hi w v ts) (e1 : lo' ≤ lo) (e2 : hi ≤ hi') : ownG lo' hi' w v ts := by
  obtain h | ⟨g, off, cap, cs, rfl, hg, hh, hc, hcp, hi⟩ := h
  · exact .inl h
  · exact .inr ⟨g, off, cap, cs, rfl, by omega, by omega, hc, hcp, hi⟩
theorem ownG.lies {lo hi : Nat} {w : World} {v : Value} {ts : List ByteArray} (h : ownG lo hi w v ts) : liesIn lo hi v := by
  intro g hg
  obtain ⟨rfl, _⟩ | ⟨g', off, cap, cs, rfl, h1, h2, _⟩ := h
  · cases hg
  · cases hg; exact ⟨h1, h2⟩
theorem ownG.cap {lo hi : Nat} {w : World} {v : Value} {ts : List ByteArray} (h : ownG lo hi w v ts) : ∃ A c, v = .slice A ts.length c ∧ ts.length ≤ c := by
  obtain ⟨rfl, rfl⟩ | ⟨g, off, cap, cs, rfl, _, _, _, hcp, _⟩ := h
  · exact ⟨_, _, rfl, Nat.le_refl _⟩
  · exact ⟨_, _, rfl, hcp⟩
/-- nothing but the block of v has turned, which is another one -/
theorem ownG.touchS {lo hi : Nat} {w w' : World} {u v : Value} {ts : List ByteArray} (h : ownG lo hi w u ts) (ht : TouchS v w w') (hd : ∀ g, u.ownBlock = some g → v.ownBlock ≠ some g) : ownG lo hi w' u ts := by
  obtain h | ⟨g, off, cap, cs, rfl, hg, hh, hc, hcp, hi⟩ := h
  · exact .inl h
  · exact .inr ⟨g, off, cap, cs, rfl, hg, hh, (ht.block g (Array.getElem?_eq_some_iff.1 hc).1 (hd g rfl)).trans hc, hcp, hi⟩
theorem ownG.lone {q lo hi : Nat} {w w' : World} {v : Value} {ts : List ByteArray} (h : ownG lo hi w v ts) (hl : Lone q w w') (hq : q < lo ∨ hi ≤ q) : ownG lo hi w' v ts := by
  obtain h | ⟨g, off, cap, cs, rfl, hg, hh, hc, hcp, hi⟩ := h
  · exact .inl h
  · exact .inr ⟨g, off, cap, cs, rfl, hg, hh, (hl.block g (Array.getElem?_eq_some_iff.1 hc).1 (by omega)).trans hc, hcp, hi⟩
/-- nothing that was there has turned but what lies between lo and hi -/
structure TouchR (lo hi : Nat) (w w' : World) : Prop where
  os : w'.os = w.os
  tape : w'.tape = w.tape
  output : w'.output = w.output
  size : w.heap.size ≤ w'.heap.size
  block : ∀ k, k < w.heap.size → k < lo ∨ hi ≤ k → w'.heap[k]? = w.heap[k]?
theorem TouchR.trans {lo hi : Nat} {a b c : World} (h : TouchR lo hi a b) (g : TouchR lo hi b c) : TouchR lo hi a c :=
  ⟨g.os.trans h.os, g.tape.trans h.tape, g.output.trans h.output, Nat.le_trans h.size g.size, fun k hk hq => (g.block k (Nat.lt_of_lt_of_le hk h.size) hq).trans (h.block k hk hq)⟩
theorem TouchR.of_below {lo hi : Nat} {a b : World} (h : Below a.heap.size a b) : TouchR lo hi a b := ⟨h.os, h.tape, h.output, h.size, fun k hk _ => h.block k hk⟩
theorem TouchR.of_touch {lo hi : Nat} {v : Value} {a b : World} (h : TouchS v a b) (hl : liesIn lo hi v) : TouchR lo hi a b :=
  ⟨h.os, h.tape, h.output, h.size, fun k hk hq => h.block k hk fun e => by have := hl k e; omega⟩
theorem belowR {B lo hi : Nat} {a w w' : World} (h : Below B a w) (ht : TouchR lo hi w w') (hB : B ≤ lo) (hw : B ≤ w.heap.size) : Below B a w' :=
  ⟨ht.os.trans h.os, ht.tape.trans h.tape, ht.output.trans h.output, Nat.le_trans h.size ht.size, fun k hk => by
    rw [ht.block k (by omega) (by omega)]; exact h.block k hk⟩
theorem ownG.touchR {lo hi lo' hi' : Nat} {w w' : World} {u : Value} {xs : List ByteArray} (h : ownG lo hi w u xs) (ht : TouchR lo' hi' w w') (hd : hi ≤ lo' ∨ hi' ≤ lo) : ownG lo hi w' u xs := by
  obtain h | ⟨g, off, cap, cs, rfl, hg, hh, hc, hcp, hi⟩ := h
  · exact .inl h
  · exact .inr ⟨g, off, cap, cs, rfl, hg, hh, (ht.block g (Array.getElem?_eq_some_iff.1 hc).1 (by omega)).trans hc, hcp, hi⟩
theorem strsV.slice {w : World} {v : Value} {xs : List ByteArray} (h : strsV w v xs) : ∃ A c, v = .slice A xs.length c := by
  obtain ⟨A, c, e, _⟩ := h; exact ⟨A, c, e⟩
theorem ownG.of_ownS {lo hi : Nat} {w : World} {v : Value} {ts : List ByteArray} (h : ownS lo hi w v ts) : ownG lo hi w v ts := by
  obtain h | ⟨g, cap, rest, rfl, hg, hh, hc, hcp⟩ := h
  · exact .inl h
  · refine .inr ⟨g, 0, cap, _, rfl, hg, hh, hc, hcp, fun i hi => ?_⟩
    have := cell_strO hc i hi
    rw [strO] at hc
    rw [row_cell hc] at this
    rw [Nat.zero_add]; exact this
theorem ownG.of_row {base hi : Nat} {w : World} {v : Value} {ts : List ByteArray} {n : Nat} (hn : n = ts.length) (h : w.ownsRow base 9 1 v n (ts.map Value.string)) (hh : ∀ g, v.ownBlock = some g → g < hi) : ownG base hi w v ts := by
  subst hn
  obtain ⟨_, ⟨rfl, h0⟩ | ⟨g, cap, cur, rfl, hb, hc, h1, _, h3, h4⟩⟩ := h
  · exact .inl ⟨rfl, List.length_eq_zero_iff.1 h0⟩
  · refine .inr ⟨g, 0, cap, cur, rfl, hb, hh g rfl, hc, h1, fun i hi => ?_⟩
    have := congrArg (fun l => l[i]?) h4
    simp only [Nat.mul_one] at this
    rw [List.getElem?_take, if_pos hi, List.getElem?_map, List.getElem?_eq_getElem hi, Array.getElem?_toList] at this
    rw [Nat.zero_add, this, List.getD_eq_getElem?_getD, List.getElem?_eq_getElem hi]
    rfl
theorem clone55 (t : ByteArray) (w : World) (hl : t.size ≤ 2097152) :
    Calls Tryz.prog 64 #[.string t] w fun e w' => e = .returned (.string t) ∧ Below w.heap.size w w' := by
  by_cases h0 : 0 < t.size
  · exact clone26 t w h0 hl
  · have he : t = noS := by
      have e : t.size = 0 := by omega
      cases t with | mk d =>
        simp only [ByteArray.size] at e
        rw [Array.eq_empty_of_size_eq_zero e]
    subst he
    clear h0 hl
    have h : Hid (Calls Tryz.prog 82 #[.string noS] w fun e w' => e = .returned (.string noS) ∧ w' = w) := by
      apply hide
      go_enter Tryz.func82, Tryz.ntmps82
      go_wp2
      go_ret
      exact ⟨rfl, rfl⟩
    go_enter Tryz.func64, Tryz.ntmps64
    go_wp2_with fail
    refine (unhide h).mono ?_
    rintro e w1 ⟨rfl, rfl⟩
    go_wp2
    go_ret
    exact ⟨rfl, Below.refl _ _⟩
end Go.Proofs.YtbkcgkffafjbgaaGreatDoor
