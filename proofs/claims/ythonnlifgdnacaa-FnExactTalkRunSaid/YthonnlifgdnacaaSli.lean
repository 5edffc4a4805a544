/- Slices of bytes: what they read as, which of them a call made; makes, appends. -/
import Derived.Test.YthonnlifgdnacaaProg
import Derived.Test.YthonnlifgdnacaaRow
import Derived.Deep.AppendSrc
import Derived.Lib.AppendZerosOnto
import Derived.Lib.AppendStr
import Derived.Laws.CopyRow
import Derived.Laws.BytesArg
import Derived.WalkKit
import Derived.WalkSpells
import Derived.WalkLawsBesides
import Derived.Handy
import Derived.Outline
import Derived.Laws.AppendOwn
import Derived.Deep.AppendLies
import Derived.OwnWalk
import Derived.Deep.QuietTactic
import Derived.BigQuiet
import Derived.BigRegion
import Derived.Deep.RegionHeld3
import Derived.Deep.WholeRow
namespace Go.Proofs.Ythonnlifgdnacaa
open Go.RowKit
set_option maxHeartbeats 4000000
set_option maxRecDepth 20000
theorem hide {p : Prop} (h : p) : Hid p := h
theorem unhide {p : Prop} (h : Hid p) : p := h
theorem meet {G P : Prop} (h : G → P) (m : G) : P := h m
theorem below_drewN {B : Nat} {a w : World} (h : Below B a w) (k : Nat) : Below B a (w.drewN k) := ⟨h.os, h.tape, h.output, h.size, h.block⟩
def bt (t : ByteArray) (i : Nat) : Int := ((t.data.toList.getD i 0).toNat : Int)
theorem bt_bd (t : ByteArray) (i : Nat) : 0 ≤ bt t i ∧ bt t i < 256 := by
  unfold bt; have := UInt8.toNat_lt (t.data.toList.getD i 0); omega
theorem index_bt (t : ByteArray) (i : Nat) (h : i < t.size) (w : World) : (Instr.index 9 (.string t) (.int .i64 (i : Int))).run Try.prog w = .ok (.int .u8 (bt t i)) w := by
  have e : bt t i = (t[i].toNat : Int) := by
    unfold bt
    have hl : i < t.data.toList.length := by rw [Array.length_toList]; exact h
    rw [List.getD_eq_getElem?_getD, List.getElem?_eq_getElem hl]
    rfl
  rw [e]
  go_simp
theorem info5 : (Try.prog.info? 5).map (fun i => (i.zero, i.size, i.bytes)) = some (some (.int .u8 0), 1, 1) := by kernel_rfl
theorem heap_at (W : World) (o : Obj) (n : Nat) (h : n = W.heap.size) : (W.alloc o).heap[n]? = some o := by subst h; exact heap_alloc_new W o
theorem get_setRow {W : World} {g : Nat} {cs old : Array Value} {t : TypeId} {fr : Nat × Nat} (h : W.heap[g]? = some (.cells old t fr)) : (W.setRow g cs).heap[g]? = some (.cells cs t fr) := by
  simp [World.setRow, Array.getElem?_modify, h]
theorem below_setRow {B g : Nat} {a W : World} {cs : Array Value} (h : Below B a W) (hg : B ≤ g) : Below B a (W.setRow g cs) :=
  ⟨h.os, h.tape, h.output, by simpa [World.setRow] using h.size, fun k hk => by
    rw [← h.block k hk]; simp only [World.setRow]; rw [Array.getElem?_modify, if_neg (by omega)]⟩
def isB (xs : List Int) : Prop := ∀ x ∈ xs, 0 ≤ x ∧ x < 256
theorem isB.at {xs : List Int} (h : isB xs) (i : Nat) : 0 ≤ xs.getD i 0 ∧ xs.getD i 0 < 256 := by
  rw [List.getD_eq_getElem?_getD]
  by_cases hi : i < xs.length
  · rw [List.getElem?_eq_getElem hi]; exact h _ (List.getElem_mem hi)
  · rw [List.getElem?_eq_none (by omega)]; decide
/-- a slice that reads as these bytes -/
def bytesV (w : World) (v : Value) (xs : List Int) : Prop :=
  ∃ A cap, v = .slice A xs.length cap ∧ isB xs ∧ (0 < xs.length → ∃ b off, A = some ⟨b, off, none⟩ ∧ b < w.heap.size ∧ ∀ i, i < xs.length → w.cell? ⟨b, off + i, none⟩ = some (.int .u8 (xs.getD i 0)))
/-- a slice of bytes in a block of its own, behind 'base' -/
def ownB (base : Nat) (w : World) (v : Value) (xs : List Int) : Prop :=
  isB xs ∧ ((v = .slice none 0 0 ∧ xs = []) ∨ ∃ g cap rest, v = .slice (some ⟨g, 0, none⟩) xs.length cap ∧ base ≤ g ∧ w.heap[g]? = some (rowObj 5 .u8 xs rest) ∧ xs.length ≤ cap)
theorem cell_rowObj {w : World} {g : Nat} {e : TypeId} {xs : List Int} {rest : List Value} (h : w.heap[g]? = some (rowObj e .u8 xs rest)) (i : Nat) (hi : i < xs.length) : w.cell? ⟨g, i, none⟩ = some (.int .u8 (xs.getD i 0)) := by
  rw [← row_same w g e .u8 xs rest h]
  exact cell_row _ _ _ _ _ _ _ hi (Array.getElem?_eq_some_iff.1 h).1
theorem ownB.bytes {base : Nat} {w : World} {v : Value} {xs : List Int} (h : ownB base w v xs) : bytesV w v xs := by
  obtain ⟨hb, ⟨rfl, rfl⟩ | ⟨g, cap, rest, rfl, hg, hc, hcp⟩⟩ := h
  · exact ⟨none, 0, rfl, hb, fun h => by simp at h⟩
  · exact ⟨_, _, rfl, hb, fun _ => ⟨g, 0, rfl, (Array.getElem?_eq_some_iff.1 hc).1, fun i hi => by rw [Nat.zero_add]; exact cell_rowObj hc i hi⟩⟩
theorem cell_below {w w' : World} (hb : Below w.heap.size w w') {b i : Nat} (h : b < w.heap.size) : w'.cell? ⟨b, i, none⟩ = w.cell? ⟨b, i, none⟩ := by
  unfold World.cell?
  rw [show (⟨b, i, none⟩ : Addr).block = b from rfl, hb.block b h]
theorem bytesV.below {w w' : World} {v : Value} {xs : List Int} (h : bytesV w v xs) (hb : Below w.heap.size w w') : bytesV w' v xs := by
  obtain ⟨A, cap, rfl, hi, hc⟩ := h
  refine ⟨A, cap, rfl, hi, fun hn => ?_⟩
  obtain ⟨b, off, rfl, hl, hc⟩ := hc hn
  exact ⟨b, off, rfl, Nat.lt_of_lt_of_le hl hb.size, fun i hi => (cell_below hb hl).trans (hc i hi)⟩
theorem ownB.below {base : Nat} {w w' : World} {v : Value} {xs : List Int} (h : ownB base w v xs) (hb : Below w.heap.size w w') : ownB base w' v xs := by
  obtain ⟨hi, h | ⟨g, cap, rest, rfl, hg, hc, hcp⟩⟩ := h
  · exact ⟨hi, .inl h⟩
  · exact ⟨hi, .inr ⟨g, cap, rest, rfl, hg, (hb.block g (Array.getElem?_eq_some_iff.1 hc).1).trans hc, hcp⟩⟩
theorem ownB.lower {base base' : Nat} {w : World} {v : Value} {xs : List Int} (h : ownB base w v xs) (hb : base' ≤ base) : ownB base' w v xs := by
  obtain ⟨hi, h | ⟨g, cap, rest, rfl, hg, hc, hcp⟩⟩ := h
  · exact ⟨hi, .inl h⟩
  · exact ⟨hi, .inr ⟨g, cap, rest, rfl, by omega, hc, hcp⟩⟩
/-- the first j of one list, then the rest of another -/
def mixL (r xs : List Int) (j : Nat) : List Int := r.take j ++ xs.drop j
theorem mixL_len (r xs : List Int) (j : Nat) (h : r.length = xs.length) : (mixL r xs j).length = xs.length := by simp [mixL]; omega
theorem mixL_zero (r xs : List Int) : mixL r xs 0 = xs := by simp [mixL]
theorem mixL_all (r xs : List Int) (h : r.length = xs.length) : mixL r xs xs.length = r := by simp [mixL, ← h]
theorem mixL_at (r xs : List Int) (j : Nat) (h : r.length = xs.length) (hj : j < xs.length) : (mixL r xs j).getD j 0 = xs.getD j 0 := by
  unfold mixL
  rw [List.getD_eq_getElem?_getD, List.getElem?_append_right (by simp; omega), List.getElem?_drop, List.getD_eq_getElem?_getD]
  congr 2
  simp; omega
theorem mixL_succ (r xs : List Int) (j : Nat) (h : r.length = xs.length) (hj : j < xs.length) : (mixL r xs j).set j (r.getD j 0) = mixL r xs (j + 1) := by
  apply List.ext_getElem?
  intro i
  unfold mixL
  rcases Nat.lt_trichotomy i j with hi | hi | hi
  · rw [List.getElem?_set_ne (by omega), List.getElem?_append_left (by simp; omega), List.getElem?_append_left (by simp; omega), List.getElem?_take_of_lt hi, List.getElem?_take_of_lt (by omega)]
  · subst hi
    rw [List.getElem?_set_self (by simp; omega), List.getElem?_append_left (by simp; omega), List.getElem?_take_of_lt (by omega), List.getD_eq_getElem?_getD, List.getElem?_eq_getElem (by omega)]
    rfl
  · rw [List.getElem?_set_ne (by omega), List.getElem?_append_right (by simp; omega), List.getElem?_append_right (by simp; omega), List.getElem?_drop, List.getElem?_drop]
    congr 1
    simp; omega
theorem bt_str (B : List Int) (h : isB B) (i : Nat) : bt (strOfNums B) i = B.getD i 0 := by
  unfold bt
  rw [strOfNums_data, List.getD_eq_getElem?_getD, List.getElem?_map]
  have := h.at i
  rw [List.getD_eq_getElem?_getD] at this ⊢
  by_cases hi : i < B.length
  · rw [List.getElem?_eq_getElem hi] at this ⊢
    simp at this ⊢
    omega
  · rw [List.getElem?_eq_none (by omega)]; rfl
theorem index_str (B : List Int) (h : isB B) (i : Nat) (hi : i < B.length) (w : World) : (Instr.index 9 (.string (strOfNums B)) (.int .i64 (i : Int))).run Try.prog w = .ok (.int .u8 (B.getD i 0)) w := by
  rw [index_bt (strOfNums B) i (by rw [strOfNums_size]; exact hi) w, bt_str B h i]
theorem make_bytes (n : Nat) (hn : n ≤ 2097152) (w : World) : (Instr.makeSlice 22 (.int .i64 (n : Int)) (.int .i64 (n : Int))).run Try.prog w = .ok (.slice (some ⟨w.heap.size, 0, none⟩) n n) (w.alloc (rowObj 5 .u8 (List.replicate n 0) [])) := by
  obtain ⟨k0, hk0, kz0, kz1, kz2⟩ := info_parts info5
  have h := run_makeSlice w (P := Try.prog) 22 5 k0 (.int .u8 0) Try.underlying22 hk0 kz0 .i64 .i64 (n : Int) (n : Int) (by omega) (Int.le_refl _) (by rw [kz1]; omega) (by rw [kz2]; omega) (by omega)
  rw [kz1, Int.toNat_natCast, Nat.mul_one] at h
  rw [h, rowObj]
  congr 3
  apply Array.ext_getElem?
  intro i
  by_cases hi : i < n
  · simp [madeCells, Value.cells, hi, Nat.mod_one]
  · simp [madeCells, Value.cells, hi]
theorem get_setRow_other {W : World} {g n : Nat} {cs : Array Value} (h : n ≠ g) : (W.setRow g cs).heap[n]? = W.heap[n]? := by
  simp only [World.setRow]; rw [Array.getElem?_modify, if_neg (by omega)]
theorem own_rowB {w : World} {base n : Nat} {v : Value} {xs : List Int} (h : w.ownsRow base 5 1 v n (xs.map (Value.int .u8))) (hv : ∃ g c, v = .slice (some ⟨g, 0, none⟩) n c) :
    ∃ g cap rest, v = .slice (some ⟨g, 0, none⟩) n cap ∧ base ≤ g ∧ g < w.heap.size ∧ n ≤ cap ∧ w.heap[g]? = some (rowObj 5 .u8 xs rest) := by
  obtain ⟨g0, c0, rfl⟩ := hv
  rcases h.2 with ⟨e, h0⟩ | ⟨g, cap, cur, hv, hb, hg, hc, _, _, ht⟩
  · simp at e
  · refine ⟨g, cap, cur.toList.drop n, hv, hb, (Array.getElem?_eq_some_iff.1 hg).1, hc, ?_⟩
    rw [hg, rowObj]
    congr 2
    rw [← ht, Nat.mul_one, List.take_append_drop]
theorem run_append_bytes (w : World) (ty base k : Nat) (v : Value) (xs : List Int) (hown : w.ownsRow base 5 1 v k (xs.map (Value.int .u8))) (hv : ∃ g c, v = .slice (some ⟨g, 0, none⟩) k c) (u : Value) (ys : List Int) (hu : bytesV w u ys) (hm : k + ys.length ≤ 4194304) (hbase : base ≤ w.heap.size) :
    ∃ (g c : Nat) (w' : World), (Builtin.append_ #[22, 22] ty #[v, u]).run Try.prog w = .ok (.slice (some ⟨g, 0, none⟩) (k + ys.length) c) w' ∧ w'.ownsRow base 5 1 (.slice (some ⟨g, 0, none⟩) (k + ys.length) c) (k + ys.length) ((xs ++ ys).map (Value.int .u8)) ∧ w.grownBy w' v.ownBlock := by
  obtain ⟨i0, hi0, hz0, hz1, hz2⟩ := info_parts info5
  obtain ⟨B, cbp, rfl, hB, hc⟩ := hu
  rcases Nat.eq_zero_or_pos ys.length with e0 | h0
  · obtain rfl := List.length_eq_zero_iff.1 e0
    obtain ⟨g, c, rfl⟩ := hv
    have hk : k ≤ c := by
      rcases hown.2 with ⟨e, _⟩ | ⟨g', c', cur, e, _, _, h1, _⟩
      · simp at e
      · simp only [Value.slice.injEq] at e
        obtain ⟨_, _, rfl⟩ := e
        exact h1
    have hs : Src Try.prog i0.size 22 (.slice B 0 cbp) 0 [] w := by
      cases B with
      | none => exact Src.ofNil w Try.underlying22 cbp
      | some a => exact Src.ofSlice w Try.underlying22 a 0 cbp [] (by simp) (fun j u h => by simp at h) (fun u h => by cases h)
    have hr := run_append_room_src (P := Try.prog) w 22 22 ty 5 i0 Try.underlying22 hi0 g 0 k c _ 0 [] hs (by omega) (fun j h => by simp at h) (fun j h => by simp at h)
    exact ⟨g, c, w, hr, by rw [List.append_nil]; exact hown, World.grownBy.refl _ _⟩
  · obtain ⟨b, off, rfl, hlt, hcc⟩ := hc h0
    have hc : ∀ j u, (ys.map (Value.int .u8))[j]? = some u → w.cell? ((⟨b, off, none⟩ : Addr).add j) = some u := by
      intro j u hj
      rw [List.getElem?_map] at hj
      have hl : j < ys.length := by
        rcases Nat.lt_or_ge j ys.length with h | h
        · exact h
        · rw [List.getElem?_eq_none h] at hj; cases hj
      rw [List.getElem?_eq_getElem hl] at hj
      cases hj
      rw [Addr.add_lit, hcc j hl, List.getD_eq_getElem?_getD, List.getElem?_eq_getElem hl]
      rfl
    obtain ⟨g, c, w', h1, h2, h3, _, _⟩ := run_append_lies (P := Try.prog) w 22 ty base 5 i0 (.int .u8 0) 1 1 Try.underlying22 hi0 hz0 hz1 hz2 rfl (by omega) v k (xs.map (Value.int .u8)) hown ⟨b, off, none⟩ ys.length cbp (ys.map (Value.int .u8)) (by simp) hc (fun u hu => by obtain ⟨y, _, rfl⟩ := List.mem_map.1 hu; rfl) h0 (by unfold maxLen; omega) (by omega) hbase _ rfl
    exact ⟨g, c, w', h1, by rw [List.map_append]; exact h2, h3⟩
theorem wpList_append_bytes (w : World) {ops : Array Oper} {rest : List Oper} {o : Oper} {a : Act} {Q : Exit → Act → World → Prop} (hgd : o.guard = none) (s x : Operand)
    (ho : o.op = .call { callee := .builtin .append, args := #[s, x], argTypes := #[22, 22] })
    (base k : Nat) (v : Value) (xs : List Int) (hs : a.eval s = v) (hown : w.ownsRow base 5 1 v k (xs.map (Value.int .u8))) (hv : ∃ g c, v = .slice (some ⟨g, 0, none⟩) k c) (u : Value) (ys : List Int) (hxv : a.eval x = u) (hu : bytesV w u ys) (hm : k + ys.length ≤ 4194304) (hbase : base ≤ w.heap.size)
    (h : ∀ (g c : Nat) (w' : World), w'.ownsRow base 5 1 (.slice (some ⟨g, 0, none⟩) (k + ys.length) c) (k + ys.length) ((xs ++ ys).map (Value.int .u8)) → w.grownBy w' v.ownBlock → wpList Try.prog ops Q rest (a.put o.dst (.slice (some ⟨g, 0, none⟩) (k + ys.length) c)) w') : wpList Try.prog ops Q (o :: rest) a w :=
  wpList_plain hgd fun K hK => by
    obtain ⟨g, c, w', hr, h2, h4⟩ := run_append_bytes w o.type base k v xs hown hv u ys hu hm hbase
    unfold Oper.wp execOp
    simp only [ho, resolve, invoke, builtin, Sem.run_bind, Sem.run_pure, Result.andThen_ok, List.map_toArray, List.map_cons, List.map_nil, hs, hxv, hr]
    exact hK _ _ (h g c w' h2 h4)
theorem zeros_u8 (N : Nat) : Builtin.zeroCells (Value.int .u8 0).cells N = ((List.replicate N (0 : Int)).map (Value.int .u8)).toArray := by
  apply Array.ext_getElem?
  intro i
  by_cases hi : i < N
  · simp [Builtin.zeroCells, Value.cells, hi, Nat.mod_one]
  · simp [Builtin.zeroCells, Value.cells, hi]
theorem run_append_zeros (w : World) (ty base k N : Nat) (v : Value) (xs : List Int) (hown : w.ownsRow base 5 1 v k (xs.map (Value.int .u8))) (hv : ∃ g c, v = .slice (some ⟨g, 0, none⟩) k c) (hm : k + N ≤ 4194304) (hbase : base ≤ w.heap.size) :
    ∃ (g c : Nat) (w' : World), (Builtin.append_ #[22, 3] ty #[v, .int .i64 (N : Int)]).run Try.prog w = .ok (.slice (some ⟨g, 0, none⟩) (k + N) c) w' ∧ w'.ownsRow base 5 1 (.slice (some ⟨g, 0, none⟩) (k + N) c) (k + N) ((xs ++ List.replicate N 0).map (Value.int .u8)) ∧ w.grownBy w' v.ownBlock := by
  obtain ⟨i0, hi0, hz0, hz1, hz2⟩ := info_parts info5
  have hxl : xs.length = k := by have := hown.1; simpa using this
  obtain ⟨g0, c0, rfl⟩ := hv
  rcases hown.2 with ⟨e, _⟩ | ⟨g, cap, cur, e, hbg, hg, hkc, hcm, hcs, htake⟩
  · simp at e
  · simp only [Value.slice.injEq, Option.some.injEq, Addr.mk.injEq, and_true, true_and] at e
    obtain ⟨rfl, rfl⟩ := e
    have hlen : ((xs ++ List.replicate N (0 : Int)).map (Value.int .u8)).length = (k + N) * 1 := by simp [hxl]
    have hw : IntKind.i64.wrap (N : Int) = N := by rw [IntKind.wrap_i64]; omega
    by_cases hroom : k + N ≤ c0
    · by_cases hN : N = 0
      · subst hN
        refine ⟨g0, c0, w, ?_, by simpa using hown, World.grownBy.refl _ _⟩
        have hw0 : IntKind.i64.wrap 0 = 0 := by decide
        simp [Builtin.append_, run_underlying Try.underlying22, run_underlying Try.underlying3, sizeOf, typeInfo, hi0, asInt, asIntOf, hkc, hw0, storeCells]
      · have hst := run_storeCells_at (P := Try.prog) g0 k 5 ((List.replicate N (0 : Int)).map (Value.int .u8)) 0 cur w hg (by simp [hcs]; omega) (fun u hu => by obtain ⟨y, _, rfl⟩ := List.mem_map.1 hu; rfl)
        have hneg : ¬ ((N : Int) < 0) := by omega
        have h48 : ¬ (281474976710656 < (N : Int)) := by omega
        refine ⟨g0, c0, w.setRow g0 (cur.toList.take (k + 0) ++ (List.replicate N (0 : Int)).map (Value.int .u8) ++ cur.toList.drop (k + 0 + ((List.replicate N (0 : Int)).map (Value.int .u8)).length)).toArray, ?_, ⟨hlen, .inr ⟨g0, c0, _, rfl, hbg, setRow_heap w g0 cur _ 5 _ hg, hroom, hcm, ?_, ?_⟩⟩, ⟨rfl, rfl, rfl, by simp, fun j _ hj => setRow_other w g0 j _ (fun e => hj (by simp [Value.ownBlock, e]))⟩⟩
        · have hadd : ∀ n, (⟨g0, 0, none⟩ : Addr).add n = ⟨g0, n, none⟩ := fun n => by rw [Addr.add_lit, Nat.zero_add]
          simp [Builtin.append_, run_underlying Try.underlying22, run_underlying Try.underlying3, sizeOf, typeInfo, zeroValue, hi0, hz0, hz1, hz2, asInt, asIntOf, hw, hneg, h48, hroom, hN, hadd, zeros_u8]
          simp at hst
          rw [hst]
          rfl
        · simp [hcs]; omega
        · have ht : cur.toList.take k = xs.map (Value.int .u8) := by simpa using htake
          have hl2 : (xs.map (Value.int .u8) ++ (List.replicate N (0 : Int)).map (Value.int .u8)).length = k + N := by simp [hxl]
          show (cur.toList.take (k + 0) ++ (List.replicate N (0 : Int)).map (Value.int .u8) ++ cur.toList.drop (k + 0 + ((List.replicate N (0 : Int)).map (Value.int .u8)).length)).take ((k + N) * 1) = _
          rw [Nat.add_zero, ht, Nat.mul_one, List.map_append, ← hl2, List.take_left]
    · have hN : 0 < N := by omega
      have holds : ∀ j u, (xs.map (Value.int .u8))[j]? = some u → w.drew.cell? ((⟨g0, 0, none⟩ : Addr).add j) = some u := hown.cells (g := g0) rfl
      have hold : (Builtin.firstCells i0.size k (.slice (some ⟨g0, 0, none⟩) k c0)).run Try.prog w.drew = .ok (xs.map (Value.int .u8)).toArray w.drew := run_firstCells_some w.drew i0.size k ⟨g0, 0, none⟩ k c0 (xs.map (Value.int .u8)) (by rw [hz1]; simp [hxl]) holds
      have hr := Lib.run_append_grow_zeros (P := Try.prog) w 22 3 ty 5 i0 (.int .u8 0) .i64 .i64 Try.underlying22 Try.underlying3 hi0 hz0 (some ⟨g0, 0, none⟩) k c0 (xs.map (Value.int .u8)) hold N hN (by rw [hz1]; omega) (by omega) (by omega) (by rw [hz2]; omega) (growslice_fits (by omega) (by rw [hz2]; omega))
      rw [zeros_u8] at hr
      have hge := grownCap_ge w (k + N) c0 5
      refine ⟨_, _, _, hr, ⟨hlen, .inr ⟨w.heap.size, _, _, rfl, hbase, heap_alloc_new w.drew _, hge, grownCap_le_maxLen w (k + N) c0 5 (by unfold maxLen; omega), ?_, ?_⟩⟩, ⟨rfl, rfl, rfl, by simp, fun j hj _ => Below.heap_alloc w.drew _ j hj⟩⟩
      · simp [size_zeroCells, Value.cells, hxl]; omega
      · have : ((xs ++ List.replicate N (0 : Int)).map (Value.int .u8)).length = (k + N) * 1 := hlen
        rw [← this]
        generalize Builtin.zeroCells (Value.int .u8 0).cells (grownCap w (k + N) c0 5 - (k + N)) = Z
        have e : ((xs.map (Value.int .u8)).toArray ++ ((List.replicate N (0 : Int)).map (Value.int .u8)).toArray ++ Z).toList = (xs ++ List.replicate N 0).map (Value.int .u8) ++ Z.toList := by simp
        rw [e, List.take_left]
theorem wpList_append_zeros (w : World) {ops : Array Oper} {rest : List Oper} {o : Oper} {a : Act} {Q : Exit → Act → World → Prop} (hgd : o.guard = none) (s x : Operand)
    (ho : o.op = .call { callee := .builtin .append, args := #[s, x], argTypes := #[22, 3] })
    (base k N : Nat) (v : Value) (xs : List Int) (hs : a.eval s = v) (hown : w.ownsRow base 5 1 v k (xs.map (Value.int .u8))) (hv : ∃ g c, v = .slice (some ⟨g, 0, none⟩) k c) (hxv : a.eval x = .int .i64 (N : Int)) (hm : k + N ≤ 4194304) (hbase : base ≤ w.heap.size)
    (h : ∀ (g c : Nat) (w' : World), w'.ownsRow base 5 1 (.slice (some ⟨g, 0, none⟩) (k + N) c) (k + N) ((xs ++ List.replicate N 0).map (Value.int .u8)) → w.grownBy w' v.ownBlock → wpList Try.prog ops Q rest (a.put o.dst (.slice (some ⟨g, 0, none⟩) (k + N) c)) w') : wpList Try.prog ops Q (o :: rest) a w :=
  wpList_plain hgd fun K hK => by
    obtain ⟨g, c, w', hr, h2, h4⟩ := run_append_zeros w o.type base k N v xs hown hv hm hbase
    unfold Oper.wp execOp
    simp only [ho, resolve, invoke, builtin, Sem.run_bind, Sem.run_pure, Result.andThen_ok, List.map_toArray, List.map_cons, List.map_nil, hs, hxv, hr]
    exact hK _ _ (h g c w' h2 h4)
theorem ext_getD {a b : List Int} (hl : a.length = b.length) (h : ∀ i, i < a.length → a.getD i 0 = b.getD i 0) : a = b := by
  apply List.ext_getElem hl
  intro i h1 h2
  have := h i h1
  rw [List.getD_eq_getElem?_getD, List.getD_eq_getElem?_getD, List.getElem?_eq_getElem h1, List.getElem?_eq_getElem h2] at this
  simpa using this
theorem getD_drop (xs : List Int) (k i : Nat) : (xs.drop k).getD i 0 = xs.getD (i + k) 0 := by
  rw [List.getD_eq_getElem?_getD, List.getElem?_drop, List.getD_eq_getElem?_getD, Nat.add_comm]
/-- bytes in a block, from a place on -/
structure rowAt (W : World) (g off : Nat) (xs : List Int) : Prop where
  lt : g < W.heap.size
  cell : ∀ i, i < xs.length → W.cell? ⟨g, off + i, none⟩ = some (.int .u8 (xs.getD i 0))
theorem rowAt.below {W W' : World} {g off : Nat} {xs : List Int} (h : rowAt W g off xs) (hb : Below W.heap.size W W') : rowAt W' g off xs :=
  ⟨Nat.lt_of_lt_of_le h.lt hb.size, fun i hi => (cell_below hb h.lt).trans (h.cell i hi)⟩
theorem rowAt.drop {W : World} {g off : Nat} {xs : List Int} (h : rowAt W g off xs) (k : Nat) : rowAt W g (off + k) (xs.drop k) :=
  ⟨h.lt, fun i hi => by
    rw [List.length_drop] at hi
    rw [getD_drop, show off + k + i = off + (i + k) by omega]
    exact h.cell (i + k) (by omega)⟩
theorem rowAt.bytes {W : World} {g off : Nat} {xs : List Int} (h : rowAt W g off xs) (hb : isB xs) (n cap : Nat) (hn : n = xs.length) : bytesV W (.slice (some ⟨g, off, none⟩) n cap) xs :=
  ⟨some ⟨g, off, none⟩, cap, by rw [hn], hb, fun _ => ⟨g, off, rfl, h.lt, h.cell⟩⟩
theorem rowAt.conv {W : World} {g off : Nat} {xs : List Int} (h : rowAt W g off xs) (n cap : Nat) (hn : n = xs.length) : (convert 22 9 (.slice (some ⟨g, off, none⟩) n cap)).run Try.prog W = .ok (.string (strOfNums xs)) W :=
  run_convert_bytes_arg _ 22 5 Try.underlying22 Try.underlying5 g off n cap xs hn.symm (fun i hi => h.cell i (by omega)) 9 Try.underlying9
theorem ownB.conv {base : Nat} {W : World} {v : Value} {xs : List Int} (h : ownB base W v xs) : (convert 22 9 v).run Try.prog W = .ok (.string (strOfNums xs)) W := by
  obtain ⟨hb, ⟨rfl, rfl⟩ | ⟨g, cap, rest, rfl, hg, hc, hcp⟩⟩ := h
  · exact run_convert_bytes_nil _ 22 5 Try.underlying22 Try.underlying5 0 0 9 Try.underlying9
  · exact rowAt.conv ⟨(Array.getElem?_eq_some_iff.1 hc).1, fun i hi => by rw [Nat.zero_add]; exact cell_rowObj hc i hi⟩ _ _ rfl
theorem ownB.row {base : Nat} {W : World} {v : Value} {xs : List Int} (h : ownB base W v xs) (h0 : 0 < xs.length) : ∃ g cap, v = .slice (some ⟨g, 0, none⟩) xs.length cap ∧ xs.length ≤ cap ∧ rowAt W g 0 xs := by
  obtain ⟨hb, ⟨rfl, rfl⟩ | ⟨g, cap, rest, rfl, hg, hc, hcp⟩⟩ := h
  · simp at h0
  · exact ⟨g, cap, rfl, hcp, ⟨(Array.getElem?_eq_some_iff.1 hc).1, fun i hi => by rw [Nat.zero_add]; exact cell_rowObj hc i hi⟩⟩
end Go.Proofs.Ythonnlifgdnacaa
