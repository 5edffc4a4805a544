/- What is of no one function: what turned in the world, regions that draw their order, a block's cells, marks. -/
import Derived.WalkKit
import Derived.Handy
import Derived.Test.YtbkcgkffafjbgaaGreatDoorProg
import Derived.Deep.AppendSrc
import Derived.Lib.AppendZerosOnto
import Derived.Lib.AppendStr
import Derived.Laws.CopyRow
import Derived.Laws.BytesArg
import Derived.WalkSpells
import Derived.WalkLawsBesides
import Derived.Outline
import Derived.Laws.AppendOwn
import Derived.Deep.AppendLies
import Derived.OwnWalk
import Derived.Deep.QuietTactic
import Derived.BigQuiet
import Derived.BigRegion
import Derived.Deep.RegionHeld3
import Derived.Deep.WholeRow
import Derived.Deep.RegionHeldLaw
import Derived.Great.BuildSlice
import Derived.Laws.IdiomStrings
import Derived.Laws.ResultCell
/- A world with blocks behind it that nobody looks at: what a call leaves, seen by its caller. -/
namespace Go.Proofs.YtbkcgkffafjbgaaGreatDoor
open Go.RowKit
def adds (W : World) (os : Array Obj) (d : Nat) : World := { W with heap := W.heap ++ os, drawn := d }
theorem get_adds (W : World) (os : Array Obj) (d n : Nat) (h : n < W.heap.size) : (adds W os d).heap[n]? = W.heap[n]? := by
  show (W.heap ++ os)[n]? = _
  rw [Array.getElem?_append_left h]
@[go_sem] theorem cell_adds (W : World) (os : Array Obj) (d n i : Nat) (h : n < W.heap.size) : (adds W os d).cell? ⟨n, i, none⟩ = W.cell? ⟨n, i, none⟩ := by
  unfold World.cell?; rw [show (⟨n, i, none⟩ : Addr).block = n from rfl, get_adds W os d n h]
@[go_sem] theorem frozen_adds (W : World) (os : Array Obj) (d n i : Nat) (h : n < W.heap.size) : (adds W os d).frozen? ⟨n, i, none⟩ = W.frozen? ⟨n, i, none⟩ := by
  unfold World.frozen?; rw [show (⟨n, i, none⟩ : Addr).block = n from rfl, get_adds W os d n h]
@[go_sem] theorem drew_adds (W : World) (os : Array Obj) (d : Nat) : (adds W os d).drew = adds W os (d + 1) := rfl
@[go_sem] theorem adds_adds (W : World) (os os' : Array Obj) (d d' : Nat) : adds (adds W os d) os' d' = adds W (os ++ os') d' := by
  simp [adds, Array.append_assoc]
theorem size_adds (W : World) (os : Array Obj) (d : Nat) : (adds W os d).heap.size = W.heap.size + os.size := by simp [adds]
@[go_sem] theorem lt_adds (W : World) (os : Array Obj) (d n : Nat) (h : n < W.heap.size) : (n < (adds W os d).heap.size) = True := by
  rw [size_adds]; simp; omega
@[go_sem] theorem le_adds (W : World) (os : Array Obj) (d n : Nat) (h : n ≤ W.heap.size) : (n ≤ (adds W os d).heap.size) = True := by
  rw [size_adds]; simp; omega
@[go_sem] theorem setCell_adds (W : World) (os : Array Obj) (d n i : Nat) (v : Value) (h : n < W.heap.size) : (adds W os d).setCell ⟨n, i, none⟩ v = adds (W.setCell ⟨n, i, none⟩ v) os d := by
  unfold World.setCell adds
  simp only [World.mk.injEq, and_self, and_true]
  apply Array.ext_getElem?
  intro k
  rw [Array.getElem?_modify]
  by_cases hk : k < W.heap.size
  · rw [Array.getElem?_append_left hk, Array.getElem?_append_left (by simpa using hk), Array.getElem?_modify]
  · rw [Array.getElem?_append_right (by omega), Array.getElem?_append_right (by simp; omega), if_neg (by omega)]
    simp
theorem alloc_adds (W : World) (os : Array Obj) (d : Nat) (o : Obj) : (adds W os d).alloc o = adds W (os.push o) d := by
  simp only [adds, World.alloc, World.mk.injEq, and_self, and_true]
  exact Array.append_push.symm ▸ rfl
@[go_sem] theorem cell_alloc_adds (W : World) (os : Array Obj) (d n i : Nat) (o : Obj) (h : n < W.heap.size) : ((adds W os d).alloc o).cell? ⟨n, i, none⟩ = W.cell? ⟨n, i, none⟩ := by
  rw [alloc_adds, cell_adds _ _ _ _ _ h]
@[go_sem] theorem frozen_alloc_adds (W : World) (os : Array Obj) (d n i : Nat) (o : Obj) (h : n < W.heap.size) : ((adds W os d).alloc o).frozen? ⟨n, i, none⟩ = W.frozen? ⟨n, i, none⟩ := by
  rw [alloc_adds, frozen_adds _ _ _ _ _ h]
@[go_sem] theorem setCell_alloc_adds (W : World) (os : Array Obj) (d n i : Nat) (v : Value) (o : Obj) (h : n < W.heap.size) : ((adds W os d).alloc o).setCell ⟨n, i, none⟩ v = (adds (W.setCell ⟨n, i, none⟩ v) os d).alloc o := by
  rw [alloc_adds, setCell_adds _ _ _ _ _ _ h, alloc_adds]
theorem adds_alloc_adds (W : World) (os os2 : Array Obj) (d d2 : Nat) (o : Obj) : adds ((adds W os d).alloc o) os2 d2 = adds W (os.push o ++ os2) d2 := by
  rw [alloc_adds, adds_adds]
theorem below_adds {B : Nat} {a X : World} (h : Below B a X) (hB : B ≤ X.heap.size) (os : Array Obj) (d : Nat) : Below B a (adds X os d) :=
  ⟨h.os, h.tape, h.output, by rw [size_adds]; have := h.size; omega, fun k hk => by rw [get_adds X os d k (by omega)]; exact h.block k hk⟩
theorem to_adds {W w1 : World} (h : Below W.heap.size W w1) : ∃ os d, w1 = adds W os d := by
  refine ⟨w1.heap.extract W.heap.size w1.heap.size, w1.drawn, ?_⟩
  obtain ⟨h1, h2, h3, h4, h5⟩ := h
  obtain ⟨hp, tp, dr, o, out⟩ := w1
  simp only [adds, World.mk.injEq] at *
  refine ⟨?_, h2, trivial, h1, h3⟩
  apply Array.ext_getElem?
  intro k
  by_cases hk : k < W.heap.size
  · rw [Array.getElem?_append_left hk]; exact h5 k hk
  · rw [Array.getElem?_append_right (by omega), Array.getElem?_extract]
    by_cases hk2 : k < hp.size
    · rw [if_pos (by omega)]; congr 1; omega
    · rw [if_neg (by omega), Array.getElem?_eq_none (by omega)]
end Go.Proofs.YtbkcgkffafjbgaaGreatDoor
/- More of worlds with blocks behind them: two layers; draws. -/
namespace Go.Proofs.YtbkcgkffafjbgaaGreatDoor
open Go.RowKit
@[go_sem] theorem adds_drew (W : World) (os : Array Obj) (d : Nat) : adds W.drew os d = adds W os d := rfl
theorem adds_none (W : World) : adds W #[] W.drawn = W := by simp [adds]
@[go_sem] theorem cell_adds_alloc_adds (Y : World) (os os2 : Array Obj) (d d2 n i : Nat) (o : Obj) (h : n < Y.heap.size) : (adds ((adds Y os d).alloc o) os2 d2).cell? ⟨n, i, none⟩ = Y.cell? ⟨n, i, none⟩ := by
  rw [adds_alloc_adds, cell_adds _ _ _ _ _ h]
@[go_sem] theorem frozen_adds_alloc_adds (Y : World) (os os2 : Array Obj) (d d2 n i : Nat) (o : Obj) (h : n < Y.heap.size) : (adds ((adds Y os d).alloc o) os2 d2).frozen? ⟨n, i, none⟩ = Y.frozen? ⟨n, i, none⟩ := by
  rw [adds_alloc_adds, frozen_adds _ _ _ _ _ h]
@[go_sem] theorem setCell_adds_alloc_adds (Y : World) (os os2 : Array Obj) (d d2 n i : Nat) (v : Value) (o : Obj) (h : n < Y.heap.size) : (adds ((adds Y os d).alloc o) os2 d2).setCell ⟨n, i, none⟩ v = adds ((adds (Y.setCell ⟨n, i, none⟩ v) os d).alloc o) os2 d2 := by
  rw [adds_alloc_adds, setCell_adds _ _ _ _ _ _ h, adds_alloc_adds]
/-- how many blocks there are behind a block and what follows it: whatever lies in them -/
def allocSize (G : World) (os : Array Obj) : Nat := G.heap.size + 1 + os.size
@[go_sem] theorem size_adds_alloc (G : World) (o : Obj) (os : Array Obj) (d : Nat) : (adds (G.alloc o) os d).heap.size = allocSize G os := by
  rw [size_adds, allocSize, World.size_alloc]
@[go_sem] theorem lt_allocSize (G : World) (os : Array Obj) (n : Nat) (h : n ≤ G.heap.size) : (n < allocSize G os) = True := by
  unfold allocSize; simp; omega
@[go_sem] theorem le_allocSize (G : World) (os : Array Obj) (n : Nat) (h : n ≤ G.heap.size) : (n ≤ allocSize G os) = True := by
  unfold allocSize; simp; omega
theorem alloc_drew (W : World) (o : Obj) : W.drew.alloc o = (W.alloc o).drew := rfl
end Go.Proofs.YtbkcgkffafjbgaaGreatDoor
/- A world in which one block holds a list of numbers, and then whatever else. -/
namespace Go.Proofs.YtbkcgkffafjbgaaGreatDoor
open Go.RowKit
def rowObj (e : TypeId) (kd : IntKind) (xs : List Int) (rest : List Value) : Obj := .cells (xs.map (Value.int kd) ++ rest).toArray e (0, 0)
def rowL (w : World) (b : Nat) (e : TypeId) (kd : IntKind) (xs : List Int) (rest : List Value) : World := { w with heap := w.heap.setIfInBounds b (rowObj e kd xs rest) }
section
variable (w : World) (b : Nat) (e : TypeId) (kd : IntKind) (xs : List Int) (rest : List Value)
theorem get_row (hb : b < w.heap.size) : (rowL w b e kd xs rest).heap[b]? = some (rowObj e kd xs rest) := by
  simp [rowL, hb]
theorem get_row_other (n : Nat) (h : n ≠ b) : (rowL w b e kd xs rest).heap[n]? = w.heap[n]? := by
  simp only [rowL]
  rw [Array.getElem?_setIfInBounds_ne (by omega)]
@[go_sem] theorem size_row : (rowL w b e kd xs rest).heap.size = w.heap.size := by simp [rowL]
@[go_sem] theorem cell_row (i : Nat) (hi : i < xs.length) (hb : b < w.heap.size) : (rowL w b e kd xs rest).cell? ⟨b, i, none⟩ = some (.int kd (xs.getD i 0)) := by
  unfold World.cell?
  rw [show (⟨b, i, none⟩ : Addr).block = b from rfl, get_row w b e kd xs rest hb]
  simp [rowObj, hi, List.getElem?_append_left, List.getD]
@[go_sem] theorem frozen_row (i : Nat) (hb : b < w.heap.size) : (rowL w b e kd xs rest).frozen? ⟨b, i, none⟩ = false := by
  unfold World.frozen?
  rw [show (⟨b, i, none⟩ : Addr).block = b from rfl, get_row w b e kd xs rest hb]
  simp [rowObj]
@[go_sem] theorem set_row (i : Nat) (v : Int) (hi : i < xs.length) (hb : b < w.heap.size) : (rowL w b e kd xs rest).setCell ⟨b, i, none⟩ (.int kd v) = rowL w b e kd (xs.set i v) rest := by
  unfold World.setCell rowL
  simp only [World.mk.injEq, and_self, and_true]
  apply Array.ext_getElem?
  intro k
  rw [Array.getElem?_modify, Array.getElem?_setIfInBounds, Array.getElem?_setIfInBounds]
  by_cases hk : b = k
  · subst hk
    simp only [if_true, hb, rowObj, Option.map_some]
    congr 1
    simp [List.set_append_left, hi]
  · rw [if_neg hk, if_neg hk, if_neg hk]
@[go_sem] theorem drew_row : (rowL w b e kd xs rest).drew = rowL w.drew b e kd xs rest := rfl
theorem row_same (hb : w.heap[b]? = some (rowObj e kd xs rest)) : rowL w b e kd xs rest = w := by
  obtain ⟨hp, tp, dr, o, out⟩ := w
  simp only [rowL, World.mk.injEq, and_self, and_true] at *
  apply Array.ext_getElem?
  intro k
  rw [Array.getElem?_setIfInBounds]
  by_cases hk : b = k
  · subst hk
    rw [hb]
    have := (Array.getElem?_eq_some_iff.1 hb).1
    simp [this]
  · rw [if_neg hk]
theorem row_row (ys : List Int) (r2 : List Value) : rowL (rowL w b e kd xs rest) b e kd ys r2 = rowL w b e kd ys r2 := by
  simp [rowL]
theorem below_row {B : Nat} {a : World} (h : Below B a w) (hB : B ≤ b) : Below B a (rowL w b e kd xs rest) :=
  ⟨h.os, h.tape, h.output, by rw [size_row]; exact h.size, fun k hk => by rw [get_row_other _ _ _ _ _ _ _ (by omega)]; exact h.block k hk⟩
end
end Go.Proofs.YtbkcgkffafjbgaaGreatDoor
/- Slices of bytes: what they read as, which of them a call made; makes, appends. -/
namespace Go.Proofs.YtbkcgkffafjbgaaGreatDoor
open Go.RowKit
set_option maxHeartbeats 4000000
set_option maxRecDepth 20000
theorem hide {p : Prop} (h : p) : Hid p := h
theorem unhide {p : Prop} (h : Hid p) : p := h
theorem meet {G P : Prop} (h : G → P) (m : G) : P := h m
theorem below_drewN {B : Nat} {a w : World} (h : Below B a w) (k : Nat) : Below B a (w.drewN k) := ⟨h.os, h.tape, h.output, h.size, h.block⟩
def bt (t : ByteArray) (i : Nat) : Int := ((t.data.toList.getD i 0).toNat : Int)
theorem bt_bd (t : ByteArray) (i : Nat) : 0 ≤ bt t i ∧ bt t i < 256 := by
  unfold bt; have := UInt8.toNat_lt (t.data.toList.getD i 0); omega
theorem index_bt (t : ByteArray) (i : Nat) (h : i < t.size) (w : World) : (Instr.index 9 (.string t) (.int .i64 (i : Int))).run Tryz.prog w = .ok (.int .u8 (bt t i)) w := by
  have e : bt t i = (t[i].toNat : Int) := by
    unfold bt
    have hl : i < t.data.toList.length := by rw [Array.length_toList]; exact h
    rw [List.getD_eq_getElem?_getD, List.getElem?_eq_getElem hl]
    rfl
  rw [e]
  go_simp
theorem info5 : (Tryz.prog.info? 5).map (fun i => (i.zero, i.size, i.bytes)) = some (some (.int .u8 0), 1, 1) := by kernel_rfl
theorem heap_at (W : World) (o : Obj) (n : Nat) (h : n = W.heap.size) : (W.alloc o).heap[n]? = some o := by subst h; exact heap_alloc_new W o
theorem get_setRow {W : World} {g : Nat} {cs old : Array Value} {t : TypeId} {fr : Nat × Nat} (h : W.heap[g]? = some (.cells old t fr)) : (W.setRow g cs).heap[g]? = some (.cells cs t fr) := by
  simp [World.setRow, Array.getElem?_modify, h]
theorem below_setRow {B g : Nat} {a W : World} {cs : Array Value} (h : Below B a W) (hg : B ≤ g) : Below B a (W.setRow g cs) :=
  ⟨h.os, h.tape, h.output, by simpa [World.setRow] using h.size, fun k hk => by
    rw [← h.block k hk]; simp only [World.setRow]; rw [Array.getElem?_modify, if_neg (by omega)]⟩
def isB (xs : List Int) : Prop := ∀ x ∈ xs, 0 ≤ x ∧ x < 256
theorem isB.at {xs : List Int} (h : isB xs) (i : Nat) : 0 ≤ xs.getD i 0 ∧ xs.getD i 0 < 256 := by
  rw [List.getD_eq_getElem?_getD]
  by_cases hi : i < xs.length
  · rw [List.getElem?_eq_getElem hi]; exact h _ (List.getElem_mem hi)
  · rw [List.getElem?_eq_none (by omega)]; decide
/-- a slice that reads as these bytes -/
def bytesV (w : World) (v : Value) (xs : List Int) : Prop :=
  ∃ A cap, v = .slice A xs.length cap ∧ isB xs ∧ (0 < xs.length → ∃ b off, A = some ⟨b, off, none⟩ ∧ b < w.heap.size ∧ ∀ i, i < xs.length → w.cell? ⟨b, off + i, none⟩ = some (.int .u8 (xs.getD i 0)))
/-- a slice of bytes in a block of its own, behind 'base' -/
def ownB (base : Nat) (w : World) (v : Value) (xs : List Int) : Prop :=
  isB xs ∧ ((v = .slice none 0 0 ∧ xs = []) ∨ ∃ g cap rest, v = .slice (some ⟨g, 0, none⟩) xs.length cap ∧ base ≤ g ∧ w.heap[g]? = some (rowObj 5 .u8 xs rest) ∧ xs.length ≤ cap)
theorem cell_rowObj {w : World} {g : Nat} {e : TypeId} {xs : List Int} {rest : List Value} (h : w.heap[g]? = some (rowObj e .u8 xs rest)) (i : Nat) (hi : i < xs.length) : w.cell? ⟨g, i, none⟩ = some (.int .u8 (xs.getD i 0)) := by
  rw [← row_same w g e .u8 xs rest h]
  exact cell_row _ _ _ _ _ _ _ hi (Array.getElem?_eq_some_iff.1 h).1
theorem ownB.bytes {base : Nat} {w : World} {v : Value} {xs : List Int} (h : ownB base w v xs) : bytesV w v xs := by
  obtain ⟨hb, ⟨rfl, rfl⟩ | ⟨g, cap, rest, rfl, hg, hc, hcp⟩⟩ := h
  · exact ⟨none, 0, rfl, hb, fun h => by simp at h⟩
  · exact ⟨_, _, rfl, hb, fun _ => ⟨g, 0, rfl, (Array.getElem?_eq_some_iff.1 hc).1, fun i hi => by rw [Nat.zero_add]; exact cell_rowObj hc i hi⟩⟩
theorem cell_below {w w' : World} (hb : Below w.heap.size w w') {b i : Nat} (h : b < w.heap.size) : w'.cell? ⟨b, i, none⟩ = w.cell? ⟨b, i, none⟩ := by
  unfold World.cell?
  rw [show (⟨b, i, none⟩ : Addr).block = b from rfl, hb.block b h]
theorem bytesV.below {w w' : World} {v : Value} {xs : List Int} (h : bytesV w v xs) (hb : Below w.heap.size w w') : bytesV w' v xs := by
  obtain ⟨A, cap, rfl, hi, hc⟩ := h
  refine ⟨A, cap, rfl, hi, fun hn => ?_⟩
  obtain ⟨b, off, rfl, hl, hc⟩ := hc hn
  exact ⟨b, off, rfl, Nat.lt_of_lt_of_le hl hb.size, fun i hi => (cell_below hb hl).trans (hc i hi)⟩
theorem ownB.below {base : Nat} {w w' : World} {v : Value} {xs : List Int} (h : ownB base w v xs) (hb : Below w.heap.size w w') : ownB base w' v xs := by
  obtain ⟨hi, h | ⟨g, cap, rest, rfl, hg, hc, hcp⟩⟩ := h
  · exact ⟨hi, .inl h⟩
  · exact ⟨hi, .inr ⟨g, cap, rest, rfl, hg, (hb.block g (Array.getElem?_eq_some_iff.1 hc).1).trans hc, hcp⟩⟩
theorem ownB.lower {base base' : Nat} {w : World} {v : Value} {xs : List Int} (h : ownB base w v xs) (hb : base' ≤ base) : ownB base' w v xs := by
  obtain ⟨hi, h | ⟨g, cap, rest, rfl, hg, hc, hcp⟩⟩ := h
  · exact ⟨hi, .inl h⟩
  · exact ⟨hi, .inr ⟨g, cap, rest, rfl, by omega, hc, hcp⟩⟩
/-- the first j of one list, then the rest of another -/
def mixL (r xs : List Int) (j : Nat) : List Int := r.take j ++ xs.drop j
theorem mixL_len (r xs : List Int) (j : Nat) (h : r.length = xs.length) : (mixL r xs j).length = xs.length := by simp [mixL]; omega
theorem mixL_zero (r xs : List Int) : mixL r xs 0 = xs := by simp [mixL]
theorem mixL_all (r xs : List Int) (h : r.length = xs.length) : mixL r xs xs.length = r := by simp [mixL, ← h]
theorem mixL_at (r xs : List Int) (j : Nat) (h : r.length = xs.length) (hj : j < xs.length) : (mixL r xs j).getD j 0 = xs.getD j 0 := by
  unfold mixL
  rw [List.getD_eq_getElem?_getD, List.getElem?_append_right (by simp; omega), List.getElem?_drop, List.getD_eq_getElem?_getD]
  congr 2
  simp; omega
theorem mixL_succ (r xs : List Int) (j : Nat) (h : r.length = xs.length) (hj : j < xs.length) : (mixL r xs j).set j (r.getD j 0) = mixL r xs (j + 1) := by
  apply List.ext_getElem?
  intro i
  unfold mixL
  rcases Nat.lt_trichotomy i j with hi | hi | hi
  · rw [List.getElem?_set_ne (by omega), List.getElem?_append_left (by simp; omega), List.getElem?_append_left (by simp; omega), List.getElem?_take_of_lt hi, List.getElem?_take_of_lt (by omega)]
  · subst hi
    rw [List.getElem?_set_self (by simp; omega), List.getElem?_append_left (by simp; omega), List.getElem?_take_of_lt (by omega), List.getD_eq_getElem?_getD, List.getElem?_eq_getElem (by omega)]
    rfl
  · rw [List.getElem?_set_ne (by omega), List.getElem?_append_right (by simp; omega), List.getElem?_append_right (by simp; omega), List.getElem?_drop, List.getElem?_drop]
    congr 1
    simp; omega
theorem bt_str (B : List Int) (h : isB B) (i : Nat) : bt (strOfNums B) i = B.getD i 0 := by
  unfold bt
  rw [strOfNums_data, List.getD_eq_getElem?_getD, List.getElem?_map]
  have := h.at i
  rw [List.getD_eq_getElem?_getD] at this ⊢
  by_cases hi : i < B.length
  · rw [List.getElem?_eq_getElem hi] at this ⊢
    simp at this ⊢
    omega
  · rw [List.getElem?_eq_none (by omega)]; rfl
theorem index_str (B : List Int) (h : isB B) (i : Nat) (hi : i < B.length) (w : World) : (Instr.index 9 (.string (strOfNums B)) (.int .i64 (i : Int))).run Tryz.prog w = .ok (.int .u8 (B.getD i 0)) w := by
  rw [index_bt (strOfNums B) i (by rw [strOfNums_size]; exact hi) w, bt_str B h i]
theorem make_bytes (n : Nat) (hn : n ≤ 2097152) (w : World) : (Instr.makeSlice 22 (.int .i64 (n : Int)) (.int .i64 (n : Int))).run Tryz.prog w = .ok (.slice (some ⟨w.heap.size, 0, none⟩) n n) (w.alloc (rowObj 5 .u8 (List.replicate n 0) [])) := by
  obtain ⟨k0, hk0, kz0, kz1, kz2⟩ := info_parts info5
  have h := run_makeSlice w (P := Tryz.prog) 22 5 k0 (.int .u8 0) Tryz.underlying22 hk0 kz0 .i64 .i64 (n : Int) (n : Int) (by omega) (Int.le_refl _) (by rw [kz1]; omega) (by rw [kz2]; omega) (by omega)
  rw [kz1, Int.toNat_natCast, Nat.mul_one] at h
  rw [h, rowObj]
  congr 3
  apply Array.ext_getElem?
  intro i
  by_cases hi : i < n
  · simp [madeCells, Value.cells, hi, Nat.mod_one]
  · simp [madeCells, Value.cells, hi]
theorem get_setRow_other {W : World} {g n : Nat} {cs : Array Value} (h : n ≠ g) : (W.setRow g cs).heap[n]? = W.heap[n]? := by
  simp only [World.setRow]; rw [Array.getElem?_modify, if_neg (by omega)]
theorem own_rowB {w : World} {base n : Nat} {v : Value} {xs : List Int} (h : w.ownsRow base 5 1 v n (xs.map (Value.int .u8))) (hv : ∃ g c, v = .slice (some ⟨g, 0, none⟩) n c) :
    ∃ g cap rest, v = .slice (some ⟨g, 0, none⟩) n cap ∧ base ≤ g ∧ g < w.heap.size ∧ n ≤ cap ∧ w.heap[g]? = some (rowObj 5 .u8 xs rest) := by
  obtain ⟨g0, c0, rfl⟩ := hv
  rcases h.2 with ⟨e, h0⟩ | ⟨g, cap, cur, hv, hb, hg, hc, _, _, ht⟩
  · simp at e
  · refine ⟨g, cap, cur.toList.drop n, hv, hb, (Array.getElem?_eq_some_iff.1 hg).1, hc, ?_⟩
    rw [hg, rowObj]
    congr 2
    rw [← ht, Nat.mul_one, List.take_append_drop]
theorem run_append_bytes (w : World) (ty base k : Nat) (v : Value) (xs : List Int) (hown : w.ownsRow base 5 1 v k (xs.map (Value.int .u8))) (hv : ∃ g c, v = .slice (some ⟨g, 0, none⟩) k c) (u : Value) (ys : List Int) (hu : bytesV w u ys) (hm : k + ys.length ≤ 4194304) (hbase : base ≤ w.heap.size) :
    ∃ (g c : Nat) (w' : World), (Builtin.append_ #[22, 22] ty #[v, u]).run Tryz.prog w = .ok (.slice (some ⟨g, 0, none⟩) (k + ys.length) c) w' ∧ w'.ownsRow base 5 1 (.slice (some ⟨g, 0, none⟩) (k + ys.length) c) (k + ys.length) ((xs ++ ys).map (Value.int .u8)) ∧ w.grownBy w' v.ownBlock := by
  obtain ⟨i0, hi0, hz0, hz1, hz2⟩ := info_parts info5
  obtain ⟨B, cbp, rfl, hB, hc⟩ := hu
  rcases Nat.eq_zero_or_pos ys.length with e0 | h0
  · obtain rfl := List.length_eq_zero_iff.1 e0
    obtain ⟨g, c, rfl⟩ := hv
    have hk : k ≤ c := by
      rcases hown.2 with ⟨e, _⟩ | ⟨g', c', cur, e, _, _, h1, _⟩
      · simp at e
      · simp only [Value.slice.injEq] at e
        obtain ⟨_, _, rfl⟩ := e
        exact h1
    have hs : Src Tryz.prog i0.size 22 (.slice B 0 cbp) 0 [] w := by
      cases B with
      | none => exact Src.ofNil w Tryz.underlying22 cbp
      | some a => exact Src.ofSlice w Tryz.underlying22 a 0 cbp [] (by simp) (fun j u h => by simp at h) (fun u h => by cases h)
    have hr := run_append_room_src (P := Tryz.prog) w 22 22 ty 5 i0 Tryz.underlying22 hi0 g 0 k c _ 0 [] hs (by omega) (fun j h => by simp at h) (fun j h => by simp at h)
    exact ⟨g, c, w, hr, by rw [List.append_nil]; exact hown, World.grownBy.refl _ _⟩
  · obtain ⟨b, off, rfl, hlt, hcc⟩ := hc h0
    have hc : ∀ j u, (ys.map (Value.int .u8))[j]? = some u → w.cell? ((⟨b, off, none⟩ : Addr).add j) = some u := by
      intro j u hj
      rw [List.getElem?_map] at hj
      have hl : j < ys.length := by
        rcases Nat.lt_or_ge j ys.length with h | h
        · exact h
        · rw [List.getElem?_eq_none h] at hj; cases hj
      rw [List.getElem?_eq_getElem hl] at hj
      cases hj
      rw [Addr.add_lit, hcc j hl, List.getD_eq_getElem?_getD, List.getElem?_eq_getElem hl]
      rfl
    obtain ⟨g, c, w', h1, h2, h3, _, _⟩ := run_append_lies (P := Tryz.prog) w 22 ty base 5 i0 (.int .u8 0) 1 1 Tryz.underlying22 hi0 hz0 hz1 hz2 rfl (by omega) v k (xs.map (Value.int .u8)) hown ⟨b, off, none⟩ ys.length cbp (ys.map (Value.int .u8)) (by simp) hc (fun u hu => by obtain ⟨y, _, rfl⟩ := List.mem_map.1 hu; rfl) h0 (by unfold maxLen; omega) (by omega) hbase _ rfl
    exact ⟨g, c, w', h1, by rw [List.map_append]; exact h2, h3⟩
theorem wpList_append_bytes (w : World) {ops : Array Oper} {rest : List Oper} {o : Oper} {a : Act} {Q : Exit → Act → World → Prop} (hgd : o.guard = none) (s x : Operand)
    (ho : o.op = .call { callee := .builtin .append, args := #[s, x], argTypes := #[22, 22] })
    (base k : Nat) (v : Value) (xs : List Int) (hs : a.eval s = v) (hown : w.ownsRow base 5 1 v k (xs.map (Value.int .u8))) (hv : ∃ g c, v = .slice (some ⟨g, 0, none⟩) k c) (u : Value) (ys : List Int) (hxv : a.eval x = u) (hu : bytesV w u ys) (hm : k + ys.length ≤ 4194304) (hbase : base ≤ w.heap.size)
    (h : ∀ (g c : Nat) (w' : World), w'.ownsRow base 5 1 (.slice (some ⟨g, 0, none⟩) (k + ys.length) c) (k + ys.length) ((xs ++ ys).map (Value.int .u8)) → w.grownBy w' v.ownBlock → wpList Tryz.prog ops Q rest (a.put o.dst (.slice (some ⟨g, 0, none⟩) (k + ys.length) c)) w') : wpList Tryz.prog ops Q (o :: rest) a w :=
  wpList_plain hgd fun K hK => by
    obtain ⟨g, c, w', hr, h2, h4⟩ := run_append_bytes w o.type base k v xs hown hv u ys hu hm hbase
    unfold Oper.wp execOp
    simp only [ho, resolve, invoke, builtin, Sem.run_bind, Sem.run_pure, Result.andThen_ok, List.map_toArray, List.map_cons, List.map_nil, hs, hxv, hr]
    exact hK _ _ (h g c w' h2 h4)
theorem zeros_u8 (N : Nat) : Builtin.zeroCells (Value.int .u8 0).cells N = ((List.replicate N (0 : Int)).map (Value.int .u8)).toArray := by
  apply Array.ext_getElem?
  intro i
  by_cases hi : i < N
  · simp [Builtin.zeroCells, Value.cells, hi, Nat.mod_one]
  · simp [Builtin.zeroCells, Value.cells, hi]
theorem run_append_zeros (w : World) (ty base k N : Nat) (v : Value) (xs : List Int) (hown : w.ownsRow base 5 1 v k (xs.map (Value.int .u8))) (hv : ∃ g c, v = .slice (some ⟨g, 0, none⟩) k c) (hm : k + N ≤ 4194304) (hbase : base ≤ w.heap.size) :
    ∃ (g c : Nat) (w' : World), (Builtin.append_ #[22, 3] ty #[v, .int .i64 (N : Int)]).run Tryz.prog w = .ok (.slice (some ⟨g, 0, none⟩) (k + N) c) w' ∧ w'.ownsRow base 5 1 (.slice (some ⟨g, 0, none⟩) (k + N) c) (k + N) ((xs ++ List.replicate N 0).map (Value.int .u8)) ∧ w.grownBy w' v.ownBlock := by
  obtain ⟨i0, hi0, hz0, hz1, hz2⟩ := info_parts info5
  have hxl : xs.length = k := by have := hown.1; simpa using this
  obtain ⟨g0, c0, rfl⟩ := hv
  rcases hown.2 with ⟨e, _⟩ | ⟨g, cap, cur, e, hbg, hg, hkc, hcm, hcs, htake⟩
  · simp at e
  · simp only [Value.slice.injEq, Option.some.injEq, Addr.mk.injEq, and_true, true_and] at e
    obtain ⟨rfl, rfl⟩ := e
    have hlen : ((xs ++ List.replicate N (0 : Int)).map (Value.int .u8)).length = (k + N) * 1 := by simp [hxl]
    have hw : IntKind.i64.wrap (N : Int) = N := by rw [IntKind.wrap_i64]; omega
    by_cases hroom : k + N ≤ c0
    · by_cases hN : N = 0
      · subst hN
        refine ⟨g0, c0, w, ?_, by simpa using hown, World.grownBy.refl _ _⟩
        have hw0 : IntKind.i64.wrap 0 = 0 := by decide
        simp [Builtin.append_, run_underlying Tryz.underlying22, run_underlying Tryz.underlying3, sizeOf, typeInfo, hi0, asInt, asIntOf, hkc, hw0, storeCells]
      · have hst := run_storeCells_at (P := Tryz.prog) g0 k 5 ((List.replicate N (0 : Int)).map (Value.int .u8)) 0 cur w hg (by simp [hcs]; omega) (fun u hu => by obtain ⟨y, _, rfl⟩ := List.mem_map.1 hu; rfl)
        have hneg : ¬ ((N : Int) < 0) := by omega
        have h48 : ¬ (281474976710656 < (N : Int)) := by omega
        refine ⟨g0, c0, w.setRow g0 (cur.toList.take (k + 0) ++ (List.replicate N (0 : Int)).map (Value.int .u8) ++ cur.toList.drop (k + 0 + ((List.replicate N (0 : Int)).map (Value.int .u8)).length)).toArray, ?_, ⟨hlen, .inr ⟨g0, c0, _, rfl, hbg, setRow_heap w g0 cur _ 5 _ hg, hroom, hcm, ?_, ?_⟩⟩, ⟨rfl, rfl, rfl, by simp, fun j _ hj => setRow_other w g0 j _ (fun e => hj (by simp [Value.ownBlock, e]))⟩⟩
        · have hadd : ∀ n, (⟨g0, 0, none⟩ : Addr).add n = ⟨g0, n, none⟩ := fun n => by rw [Addr.add_lit, Nat.zero_add]
          simp [Builtin.append_, run_underlying Tryz.underlying22, run_underlying Tryz.underlying3, sizeOf, typeInfo, zeroValue, hi0, hz0, hz1, hz2, asInt, asIntOf, hw, hneg, h48, hroom, hN, hadd, zeros_u8]
          simp at hst
          rw [hst]
          rfl
        · simp [hcs]; omega
        · have ht : cur.toList.take k = xs.map (Value.int .u8) := by simpa using htake
          have hl2 : (xs.map (Value.int .u8) ++ (List.replicate N (0 : Int)).map (Value.int .u8)).length = k + N := by simp [hxl]
          show (cur.toList.take (k + 0) ++ (List.replicate N (0 : Int)).map (Value.int .u8) ++ cur.toList.drop (k + 0 + ((List.replicate N (0 : Int)).map (Value.int .u8)).length)).take ((k + N) * 1) = _
          rw [Nat.add_zero, ht, Nat.mul_one, List.map_append, ← hl2, List.take_left]
    · have hN : 0 < N := by omega
      have holds : ∀ j u, (xs.map (Value.int .u8))[j]? = some u → w.drew.cell? ((⟨g0, 0, none⟩ : Addr).add j) = some u := hown.cells (g := g0) rfl
      have hold : (Builtin.firstCells i0.size k (.slice (some ⟨g0, 0, none⟩) k c0)).run Tryz.prog w.drew = .ok (xs.map (Value.int .u8)).toArray w.drew := run_firstCells_some w.drew i0.size k ⟨g0, 0, none⟩ k c0 (xs.map (Value.int .u8)) (by rw [hz1]; simp [hxl]) holds
      have hr := Lib.run_append_grow_zeros (P := Tryz.prog) w 22 3 ty 5 i0 (.int .u8 0) .i64 .i64 Tryz.underlying22 Tryz.underlying3 hi0 hz0 (some ⟨g0, 0, none⟩) k c0 (xs.map (Value.int .u8)) hold N hN (by rw [hz1]; omega) (by omega) (by omega) (by rw [hz2]; omega) (growslice_fits (by omega) (by rw [hz2]; omega))
      rw [zeros_u8] at hr
      have hge := grownCap_ge w (k + N) c0 5
      refine ⟨_, _, _, hr, ⟨hlen, .inr ⟨w.heap.size, _, _, rfl, hbase, heap_alloc_new w.drew _, hge, grownCap_le_maxLen w (k + N) c0 5 (by unfold maxLen; omega), ?_, ?_⟩⟩, ⟨rfl, rfl, rfl, by simp, fun j hj _ => Below.heap_alloc w.drew _ j hj⟩⟩
      · simp [size_zeroCells, Value.cells, hxl]; omega
      · have : ((xs ++ List.replicate N (0 : Int)).map (Value.int .u8)).length = (k + N) * 1 := hlen
        rw [← this]
        generalize Builtin.zeroCells (Value.int .u8 0).cells (grownCap w (k + N) c0 5 - (k + N)) = Z
        have e : ((xs.map (Value.int .u8)).toArray ++ ((List.replicate N (0 : Int)).map (Value.int .u8)).toArray ++ Z).toList = (xs ++ List.replicate N 0).map (Value.int .u8) ++ Z.toList := by simp
        rw [e, List.take_left]
theorem wpList_append_zeros (w : World) {ops : Array Oper} {rest : List Oper} {o : Oper} {a : Act} {Q : Exit → Act → World → Prop} (hgd : o.guard = none) (s x : Operand)
    (ho : o.op = .call { callee := .builtin .append, args := #[s, x], argTypes := #[22, 3] })
    (base k N : Nat) (v : Value) (xs : List Int) (hs : a.eval s = v) (hown : w.ownsRow base 5 1 v k (xs.map (Value.int .u8))) (hv : ∃ g c, v = .slice (some ⟨g, 0, none⟩) k c) (hxv : a.eval x = .int .i64 (N : Int)) (hm : k + N ≤ 4194304) (hbase : base ≤ w.heap.size)
    (h : ∀ (g c : Nat) (w' : World), w'.ownsRow base 5 1 (.slice (some ⟨g, 0, none⟩) (k + N) c) (k + N) ((xs ++ List.replicate N 0).map (Value.int .u8)) → w.grownBy w' v.ownBlock → wpList Tryz.prog ops Q rest (a.put o.dst (.slice (some ⟨g, 0, none⟩) (k + N) c)) w') : wpList Tryz.prog ops Q (o :: rest) a w :=
  wpList_plain hgd fun K hK => by
    obtain ⟨g, c, w', hr, h2, h4⟩ := run_append_zeros w o.type base k N v xs hown hv hm hbase
    unfold Oper.wp execOp
    simp only [ho, resolve, invoke, builtin, Sem.run_bind, Sem.run_pure, Result.andThen_ok, List.map_toArray, List.map_cons, List.map_nil, hs, hxv, hr]
    exact hK _ _ (h g c w' h2 h4)
theorem ext_getD {a b : List Int} (hl : a.length = b.length) (h : ∀ i, i < a.length → a.getD i 0 = b.getD i 0) : a = b := by
  apply List.ext_getElem hl
  intro i h1 h2
  have := h i h1
  rw [List.getD_eq_getElem?_getD, List.getD_eq_getElem?_getD, List.getElem?_eq_getElem h1, List.getElem?_eq_getElem h2] at this
  simpa using this
theorem getD_drop (xs : List Int) (k i : Nat) : (xs.drop k).getD i 0 = xs.getD (i + k) 0 := by
  rw [List.getD_eq_getElem?_getD, List.getElem?_drop, List.getD_eq_getElem?_getD, Nat.add_comm]
/-- bytes in a block, from a place on -/
structure rowAt (W : World) (g off : Nat) (xs : List Int) : Prop where
  lt : g < W.heap.size
  cell : ∀ i, i < xs.length → W.cell? ⟨g, off + i, none⟩ = some (.int .u8 (xs.getD i 0))
theorem rowAt.below {W W' : World} {g off : Nat} {xs : List Int} (h : rowAt W g off xs) (hb : Below W.heap.size W W') : rowAt W' g off xs :=
  ⟨Nat.lt_of_lt_of_le h.lt hb.size, fun i hi => (cell_below hb h.lt).trans (h.cell i hi)⟩
theorem rowAt.drop {W : World} {g off : Nat} {xs : List Int} (h : rowAt W g off xs) (k : Nat) : rowAt W g (off + k) (xs.drop k) :=
  ⟨h.lt, fun i hi => by
    rw [List.length_drop] at hi
    rw [getD_drop, show off + k + i = off + (i + k) by omega]
    exact h.cell (i + k) (by omega)⟩
theorem rowAt.bytes {W : World} {g off : Nat} {xs : List Int} (h : rowAt W g off xs) (hb : isB xs) (n cap : Nat) (hn : n = xs.length) : bytesV W (.slice (some ⟨g, off, none⟩) n cap) xs :=
  ⟨some ⟨g, off, none⟩, cap, by rw [hn], hb, fun _ => ⟨g, off, rfl, h.lt, h.cell⟩⟩
theorem rowAt.conv {W : World} {g off : Nat} {xs : List Int} (h : rowAt W g off xs) (n cap : Nat) (hn : n = xs.length) : (convert 22 9 (.slice (some ⟨g, off, none⟩) n cap)).run Tryz.prog W = .ok (.string (strOfNums xs)) W :=
  run_convert_bytes_arg _ 22 5 Tryz.underlying22 Tryz.underlying5 g off n cap xs hn.symm (fun i hi => h.cell i (by omega)) 9 Tryz.underlying9
theorem ownB.conv {base : Nat} {W : World} {v : Value} {xs : List Int} (h : ownB base W v xs) : (convert 22 9 v).run Tryz.prog W = .ok (.string (strOfNums xs)) W := by
  obtain ⟨hb, ⟨rfl, rfl⟩ | ⟨g, cap, rest, rfl, hg, hc, hcp⟩⟩ := h
  · exact run_convert_bytes_nil _ 22 5 Tryz.underlying22 Tryz.underlying5 0 0 9 Tryz.underlying9
  · exact rowAt.conv ⟨(Array.getElem?_eq_some_iff.1 hc).1, fun i hi => by rw [Nat.zero_add]; exact cell_rowObj hc i hi⟩ _ _ rfl
theorem ownB.row {base : Nat} {W : World} {v : Value} {xs : List Int} (h : ownB base W v xs) (h0 : 0 < xs.length) : ∃ g cap, v = .slice (some ⟨g, 0, none⟩) xs.length cap ∧ xs.length ≤ cap ∧ rowAt W g 0 xs := by
  obtain ⟨hb, ⟨rfl, rfl⟩ | ⟨g, cap, rest, rfl, hg, hc, hcp⟩⟩ := h
  · simp at h0
  · exact ⟨g, cap, rfl, hcp, ⟨(Array.getElem?_eq_some_iff.1 hc).1, fun i hi => by rw [Nat.zero_add]; exact cell_rowObj hc i hi⟩⟩
end Go.Proofs.YtbkcgkffafjbgaaGreatDoor
/- What is of no one function: what turned in the world, regions that draw their order, a block's cells, marks. -/
namespace Go.Proofs.YtbkcgkffafjbgaaGreatDoor
open Go.RowKit
set_option maxHeartbeats 4000000
set_option maxRecDepth 20000
theorem bytes_new (W : World) (x : Int) (hx : 0 ≤ x ∧ x < 256) : bytesV (W.alloc (.cells #[.int .u8 x] 5)) (.slice (some ⟨W.heap.size, 0, none⟩) 1 1) [x] :=
  ⟨_, 1, rfl, (fun y hy => by simp at hy; subst hy; exact hx), fun _ => ⟨W.heap.size, 0, rfl, by simp, fun i hi => by
    have hi' : i < 1 := hi
    obtain rfl : i = 0 := by omega
    rw [Go.cell_of_row _ _ _ _ _ _ (heap_alloc_new W _)]; rfl⟩⟩
/-- a text's bytes as numbers -/
def txt (t : ByteArray) : List Int := t.data.toList.map fun b => (b.toNat : Int)
theorem txt_len (t : ByteArray) : (txt t).length = t.size := by rw [txt, List.length_map, Array.length_toList]; rfl
theorem txt_isB (t : ByteArray) : isB (txt t) := by
  intro x hx
  obtain ⟨b, _, rfl⟩ := List.mem_map.1 hx
  have := UInt8.toNat_lt b
  omega
theorem bl_al {w X : World} {o : Obj} (h : Below w.heap.size w X) : Below w.heap.size w (X.alloc o) := h.alloc h.size o
theorem bl_dr {w X : World} (h : Below w.heap.size w X) : Below w.heap.size w X.drew := below_drewN h 1
theorem bl_st {w X Y : World} (hb : Below X.heap.size X Y) (h : Below w.heap.size w X) : Below w.heap.size w Y := h.trans (hb.mono h.size)
/-- where v lies -/
def liesIn (lo hi : Nat) (v : Value) : Prop := ∀ g, v.ownBlock = some g → lo ≤ g ∧ g < hi
abbrev noS : ByteArray := ⟨#[]⟩
/-- nothing that was there but block q has turned -/
structure Lone (q : Nat) (w w' : World) : Prop where
  os : w'.os = w.os
  tape : w'.tape = w.tape
  output : w'.output = w.output
  size : w.heap.size ≤ w'.heap.size
  block : ∀ k, k < w.heap.size → k ≠ q → w'.heap[k]? = w.heap[k]?
theorem Lone.refl (q : Nat) (w : World) : Lone q w w := ⟨rfl, rfl, rfl, Nat.le_refl _, fun _ _ _ => rfl⟩
theorem Lone.trans {q : Nat} {a b c : World} (h : Lone q a b) (g : Lone q b c) : Lone q a c :=
  ⟨g.os.trans h.os, g.tape.trans h.tape, g.output.trans h.output, Nat.le_trans h.size g.size, fun k hk hq => (g.block k (Nat.lt_of_lt_of_le hk h.size) hq).trans (h.block k hk hq)⟩
theorem Lone.of_below {q : Nat} {a b : World} (h : Below a.heap.size a b) : Lone q a b := ⟨h.os, h.tape, h.output, h.size, fun k hk _ => h.block k hk⟩
theorem Lone.below {q B : Nat} {x a b : World} (h : Lone q a b) (hx : Below B x a) (hB : B ≤ q) (hs : B ≤ a.heap.size) : Below B x b :=
  ⟨h.os.trans hx.os, h.tape.trans hx.tape, h.output.trans hx.output, Nat.le_trans hx.size h.size, fun k hk => (h.block k (by omega) (by omega)).trans (hx.block k hk)⟩
theorem lone_setCell (q i : Nat) (X : World) (v : Value) : Lone q X (X.setCell ⟨q, i, none⟩ v) :=
  ⟨rfl, rfl, rfl, by simp [World.setCell], fun k _ hq => by simp only [World.setCell]; rw [Array.getElem?_modify, if_neg (by omega)]⟩
theorem bl_set {B q i : Nat} {x X : World} {v : Value} (h : Below B x X) (hq : B ≤ q) : Below B x (X.setCell ⟨q, i, none⟩ v) :=
  ⟨h.os, h.tape, h.output, by simpa [World.setCell] using h.size, fun k hk => by
    rw [← h.block k hk]; simp only [World.setCell]; rw [Array.getElem?_modify, if_neg (by omega)]⟩
/-- the first j of one list, then the rest of another -/
def mixG {α : Type} (r xs : List α) (j : Nat) : List α := r.take j ++ xs.drop j
theorem mixG_len {α : Type} (r xs : List α) (j : Nat) (h : r.length = xs.length) : (mixG r xs j).length = xs.length := by simp [mixG]; omega
theorem mixG_zero {α : Type} (r xs : List α) : mixG r xs 0 = xs := by simp [mixG]
theorem mixG_all {α : Type} (r xs : List α) (h : r.length = xs.length) : mixG r xs xs.length = r := by simp [mixG, ← h]
theorem mixG_succ {α : Type} (d : α) (r xs : List α) (j : Nat) (h : r.length = xs.length) (hj : j < xs.length) : (mixG r xs j).set j (r.getD j d) = mixG r xs (j + 1) := by
  apply List.ext_getElem?
  intro i
  unfold mixG
  rcases Nat.lt_trichotomy i j with hi | hi | hi
  · rw [List.getElem?_set_ne (by omega), List.getElem?_append_left (by simp; omega), List.getElem?_append_left (by simp; omega), List.getElem?_take_of_lt hi, List.getElem?_take_of_lt (by omega)]
  · subst hi
    rw [List.getElem?_set_self (by simp; omega), List.getElem?_append_left (by simp; omega), List.getElem?_take_of_lt (by omega), List.getD_eq_getElem?_getD, List.getElem?_eq_getElem (by omega)]
    rfl
  · rw [List.getElem?_set_ne (by omega), List.getElem?_append_right (by simp; omega), List.getElem?_append_right (by simp; omega), List.getElem?_drop, List.getElem?_drop]
    congr 1
    simp; omega
/-- a number's digits ahead of a text -/
def decF : Nat → Nat → ByteArray → ByteArray
  | 0, _, s => s
  | f + 1, k, s => if k = 0 then s else decF f (k / 10) (strOfNums [(((48 + k % 10 : Nat) : Int))] ++ s)
def mkT (k : Nat) : ByteArray := if k = 0 then ⟨#[109, 48]⟩ else ⟨#[109]⟩ ++ decF k k noS
/-- nothing that was there but v's own block has turned -/
structure TouchS (v : Value) (w w' : World) : Prop where
  os : w'.os = w.os
  tape : w'.tape = w.tape
  output : w'.output = w.output
  size : w.heap.size ≤ w'.heap.size
  block : ∀ k, k < w.heap.size → v.ownBlock ≠ some k → w'.heap[k]? = w.heap[k]?
theorem belowS {B lo hi : Nat} {a w w' : World} {v : Value} (h : Below B a w) (ht : TouchS v w w') (hl : liesIn lo hi v) (hB : B ≤ lo) (hw : B ≤ w.heap.size) : Below B a w' :=
  ⟨ht.os.trans h.os, ht.tape.trans h.tape, ht.output.trans h.output, Nat.le_trans h.size ht.size, fun k hk => by
    rw [ht.block k (by omega) (fun e => by have := hl k e; omega)]; exact h.block k hk⟩
theorem row_cell {X : World} {t i : Nat} {cs : Array Value} {ty : TypeId} (h : X.heap[t]? = some (.cells cs ty (0, 0))) : X.cell? ⟨t, i, none⟩ = cs[i]? := by
  rw [Go.cell_of_row _ _ _ _ _ _ h]
theorem row_free {X : World} {t i : Nat} {cs : Array Value} {ty : TypeId} (h : X.heap[t]? = some (.cells cs ty (0, 0))) : X.frozen? ⟨t, i, none⟩ = false := by
  simp [World.frozen?, h]
theorem row_set {X : World} {t i : Nat} {cs : Array Value} {v : Value} {ty : TypeId} (h : X.heap[t]? = some (.cells cs ty (0, 0))) : (X.setCell ⟨t, i, none⟩ v).heap[t]? = some (.cells (cs.setIfInBounds i v) ty (0, 0)) := by
  simp [World.setCell, Array.getElem?_modify, h]
theorem row_set_other {X : World} {t t' i : Nat} {o : Obj} {v : Value} (h : X.heap[t]? = some o) (hne : t' ≠ t) : (X.setCell ⟨t', i, none⟩ v).heap[t]? = some o := by
  rw [← h]; simp only [World.setCell]; rw [Array.getElem?_modify, if_neg (by omega)]
theorem size_set (X : World) (q i : Nat) (v : Value) : (X.setCell ⟨q, i, none⟩ v).heap.size = X.heap.size := by simp [World.setCell]
theorem TouchS.of_below {v : Value} {a b : World} (h : Below a.heap.size a b) : TouchS v a b := ⟨h.os, h.tape, h.output, h.size, fun k hk _ => h.block k hk⟩
theorem TouchS.trans {v : Value} {a b c : World} (h : TouchS v a b) (g : TouchS v b c) : TouchS v a c :=
  ⟨g.os.trans h.os, g.tape.trans h.tape, g.output.trans h.output, Nat.le_trans h.size g.size, fun k hk hq => (g.block k (Nat.lt_of_lt_of_le hk h.size) hq).trans (h.block k hk hq)⟩
theorem step_skipW {P : Program} {ops : Array Oper} {o : Oper} {a : Act} {w : World} {K : Act → World → Prop} {Q : Exit → Act → World → Prop} {E : Prop} (hw : Region.wanted o (yielded ops a.tmps) = true) (w' : World) (hrun : (execOp a.eval o).run P w = .ok .skip w')
    (h : K (a.put o.dst undef) w') : if Region.wanted o (yielded ops a.tmps) = true then Oper.wp P o a w K Q else E := by
  rw [if_pos hw]
  unfold Oper.wp
  rw [hrun, Oper.upon_skip]
  exact h
theorem step_enterW {P : Program} {ops : Array Oper} {o : Oper} {a : Act} {w : World} {K : Act → World → Prop} {Q : Exit → Act → World → Prop} {E : Prop} (hw : Region.wanted o (yielded ops a.tmps) = true) (f : FuncId) (args : Array Value) (hrun : (execOp a.eval o).run P w = .ok (.enter f args) w)
    (hc : Calls P f args w fun e w' => ∃ v, e = .returned v ∧ K (a.put o.dst v) w') : if Region.wanted o (yielded ops a.tmps) = true then Oper.wp P o a w K Q else E := by
  rw [if_pos hw]
  unfold Oper.wp
  rw [hrun, Oper.upon_enter]
  refine hc.mono fun e w'' hh => ?_
  obtain ⟨v, rfl, hk⟩ := hh
  exact hk
theorem step_valueW {P : Program} {ops : Array Oper} {o : Oper} {a : Act} {w : World} {K : Act → World → Prop} {Q : Exit → Act → World → Prop} {E : Prop} (hw : Region.wanted o (yielded ops a.tmps) = true) (v : Value) (w' : World) (hrun : (execOp a.eval o).run P w = .ok (.value v) w')
    (h : K (a.put o.dst v) w') : if Region.wanted o (yielded ops a.tmps) = true then Oper.wp P o a w K Q else E := by
  rw [if_pos hw]
  unfold Oper.wp
  rw [hrun, Oper.upon_value]
  exact h
theorem wpAnyH_one {P : Program} {md : Region.Mode} {ops : Array Oper} {Q : Exit → Act → World → Prop} {S : World → Prop} {fuel : Nat} {listed : Array Bool} {a : Act} {w : World} {i : Nat} (hr : Region.ready md ops listed = [i])
    (h : wpOp P ops Q i (fun a' w' => S w' ∧ wpAnyH P md ops Q S fuel (listed.setIfInBounds i true) a' w') a w) : wpAnyH P md ops Q S (fuel + 1) listed a w :=
  wpAnyH_all hr (by simp) fun k hk => by
    obtain rfl : k = i := by simpa using hk
    exact h
theorem wpAnyH_two {P : Program} {md : Region.Mode} {ops : Array Oper} {Q : Exit → Act → World → Prop} {S : World → Prop} {fuel : Nat} {listed : Array Bool} {a : Act} {w : World} {i j : Nat} (hr : Region.ready md ops listed = [i, j])
    (h1 : wpOp P ops Q i (fun a' w' => S w' ∧ wpAnyH P md ops Q S fuel (listed.setIfInBounds i true) a' w') a w)
    (h2 : wpOp P ops Q j (fun a' w' => S w' ∧ wpAnyH P md ops Q S fuel (listed.setIfInBounds j true) a' w') a w) : wpAnyH P md ops Q S (fuel + 1) listed a w :=
  wpAnyH_all hr (by simp) fun k hk => by
    rcases List.mem_cons.1 hk with rfl | hk
    · exact h1
    · obtain rfl : k = j := by simpa using hk
      exact h2
theorem ret_bool {a b : Bool} (h : a = b) : Ending.returned (.bool a) = .returned (.bool b) := by rw [h]
theorem in19 (n lo hi : Int) (w : World) : Calls Tryz.prog 30 #[.int .i64 n, .int .i64 lo, .int .i64 hi] w fun e w' => e = .returned (.bool (decide (lo ≤ n) && decide (n ≤ hi))) ∧ w' = w := by
  go_enter Tryz.func30, Tryz.ntmps30
  go_wp2
  all_goals
    go_ret
    exact ⟨ret_bool (by rw [Bool.eq_iff_iff]; simp; try omega), rfl⟩
end Go.Proofs.YtbkcgkffafjbgaaGreatDoor
