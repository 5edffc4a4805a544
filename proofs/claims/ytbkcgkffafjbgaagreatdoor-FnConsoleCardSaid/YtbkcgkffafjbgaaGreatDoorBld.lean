/- A console's builder: it lies within the console's block; what is written into it stands behind what stood there. -/
import Derived.Test.YtbkcgkffafjbgaaGreatDoorGa
import Derived.Test.YtbkcgkffafjbgaaGreatDoorShf
import Derived.Lib.Builder
import Derived.Lib.AppendStr
import Derived.Lib.UnsafeStr
import Derived.Shelf.Strings.Builder1
namespace Go.Proofs.YtbkcgkffafjbgaaGreatDoor
open Go.RowKit
set_option maxHeartbeats 4000000
set_option maxRecDepth 100000
set_option linter.unusedVariables false
/-- a console's block: both who talk in block g, its builder's address and its buffer -/
def conB (c g : Nat) (p v : Value) (W : World) : Prop := W.heap[c]? = some (.cells #[.slice (some ⟨g, 0, none⟩) 2 2, p, v] 47 (0, 0))
theorem conB.lt {c g : Nat} {p v : Value} {W : World} (h : conB c g p v W) : c < W.heap.size := (Array.getElem?_eq_some_iff.1 h).1
theorem conB.c0 {c g : Nat} {p v : Value} {W : World} (h : conB c g p v W) : W.cell? ⟨c, 0, none⟩ = some (.slice (some ⟨g, 0, none⟩) 2 2) := by rw [row_cell h]; rfl
theorem conB.c1 {c g : Nat} {p v : Value} {W : World} (h : conB c g p v W) : W.cell? ⟨c, 1, none⟩ = some p := by rw [row_cell h]; rfl
theorem conB.c2 {c g : Nat} {p v : Value} {W : World} (h : conB c g p v W) : W.cell? ⟨c, 2, none⟩ = some v := by rw [row_cell h]; rfl
theorem conB.fz {c g : Nat} {p v : Value} {W : World} (h : conB c g p v W) (i : Nat) : W.frozen? ⟨c, i, none⟩ = false := row_free h
theorem conB.shape {c g : Nat} {p v : Value} {W : World} (h : conB c g p v W) : W.shape? c = some (47, 3) := by unfold World.shape?; rw [h]; rfl
theorem conB.set1 {c g : Nat} {p v : Value} {W : World} (h : conB c g p v W) (u : Value) : conB c g u v (W.setCell ⟨c, 1, none⟩ u) := by
  have := row_set (i := 1) (v := u) h
  simpa [conB] using this
theorem conB.set2 {c g : Nat} {p v : Value} {W : World} (h : conB c g p v W) (u : Value) : conB c g p u (W.setCell ⟨c, 2, none⟩ u) := by
  have := row_set (i := 2) (v := u) h
  simpa [conB] using this
theorem conB.grown {c g : Nat} {p v : Value} {W W' : World} {r : Option Nat} (h : conB c g p v W) (hg : W.grownBy W' r) (hr : r ≠ some c) : conB c g p v W' := (hg.block c h.lt (fun e => hr e.symm)).trans h
theorem info45 : (Tryz.prog.info? 45).map (·.size) = some 2 := by kernel_rfl
theorem lies45 : liesAt Tryz.prog Tryz.prog.depth 47 (3 / Tryz.prog.cellsOf 47) 1 45 1 = true := by kernel_rfl
theorem info5b : (Tryz.prog.info? 5).map (fun i => (i.zero, i.size, i.bytes)) = some (some (.int .u8 0), 1, 1) := by kernel_rfl
abbrev selfP (c : Nat) : Value := .pointer (some ⟨c, 1, none⟩)
theorem copy_used (c g : Nat) (v : Value) (w : World) (h : conB c g (selfP c) v w) :
    Calls Tryz.prog 90 #[selfP c] w fun e w' => e = .returned (.tuple #[]) ∧ w' = w := by
  obtain ⟨j, hj, _⟩ := Option.map_eq_some_iff.1 info45
  have c1 := h.c1
  go_enter Tryz.func90, Tryz.ntmps90
  go_wp2
  rw [Lib.run_neq_ptr_same w _ Tryz.underlying43 hj]
  go_wp2
  go_end0
  exact ⟨rfl, rfl⟩
theorem copy_fresh (c g : Nat) (v : Value) (w : World) (h : conB c g (.pointer none) v w) :
    Calls Tryz.prog 90 #[selfP c] w fun e w' => e = .returned (.tuple #[]) ∧ w' = w.setCell ⟨c, 1, none⟩ (selfP c) := by
  obtain ⟨j, hj, hjs⟩ := Option.map_eq_some_iff.1 info45
  have c1 := h.c1
  have f1 := h.fz 1
  have hsh := h.shape
  go_enter Tryz.func90, Tryz.ntmps90
  go_wp2
  rw [Lib.run_to_unsafe w ⟨c, 1, none⟩ Tryz.underlying43 Tryz.underlying133 hj (by rw [hjs]; decide) hsh (show 1 < 3 by decide)]
  simp only [Result.andThen]
  rw [Oper.upon_value]
  go_wp2
  rw [run_callFunc_extern Tryz.func104 (by kernel_rfl) (by kernel_rfl) (by kernel_rfl) (e := Extern.AbiNoEscape.same) (by kernel_rfl)]
  rw [Lib.run_noEscape]
  simp only [Result.andThen]
  rw [Oper.upon_value]
  go_wp2
  rw [Lib.run_from_unsafe w ⟨c, 1, none⟩ Tryz.underlying133 Tryz.underlying43 hj hsh lies45]
  simp only [Result.andThen]
  rw [Oper.upon_value]
  go_wp2
  go_end0
  exact ⟨rfl, rfl⟩
/-- the console's builder holds these bytes; its buffer is its own, made from base on -/
def bldO (base c g : Nat) (l : List Value) (W : World) : Prop :=
  ∃ p v, conB c g p v W ∧ (p = .pointer none ∨ p = selfP c) ∧ W.ownsRow base 5 1 v l.length l
/-- every block is kept, but the console's and such as hold bytes -/
structure Kb (B c : Nat) (W W' : World) : Prop where
  os : W'.os = W.os
  tape : W'.tape = W.tape
  output : W'.output = W.output
  size : W.heap.size ≤ W'.heap.size
  same : ∀ k, k < W.heap.size → k ≠ c → (k < B ∨ ∀ cs fr, W.heap[k]? ≠ some (.cells cs 5 fr)) → W'.heap[k]? = W.heap[k]?
theorem Kb.refl (B c : Nat) (W : World) : Kb B c W W := ⟨rfl, rfl, rfl, Nat.le_refl _, fun _ _ _ _ => rfl⟩
theorem Kb.trans {B c : Nat} {U V W : World} (h : Kb B c U V) (k : Kb B c V W) : Kb B c U W :=
  ⟨k.os.trans h.os, k.tape.trans h.tape, k.output.trans h.output, Nat.le_trans h.size k.size, fun i hi hc hn => by
    have e := h.same i hi hc hn
    rw [k.same i (Nat.lt_of_lt_of_le hi h.size) hc (hn.imp id fun hn => by rw [e]; exact hn), e]⟩
theorem Kb.of_below {B c : Nat} {U V : World} (h : Below U.heap.size U V) : Kb B c U V := ⟨h.os, h.tape, h.output, h.size, fun k hk _ _ => h.block k hk⟩
theorem Kb.of_lone {B c : Nat} {U V : World} (h : Lone c U V) : Kb B c U V := ⟨h.os, h.tape, h.output, h.size, fun k hk hc _ => h.block k hk hc⟩
theorem owns_not {base : Nat} {v : Value} {n : Nat} {xs : List Value} {W : World} (h : W.ownsRow base 5 1 v n xs) (k : Nat) (hk : v.ownBlock = some k) : base ≤ k ∧ ∃ cs fr, W.heap[k]? = some (.cells cs 5 fr) := by
  rcases h.2 with ⟨rfl, _⟩ | ⟨g, cap, cur, rfl, hb, hg, _⟩
  · cases hk
  · obtain rfl : g = k := Option.some.inj hk
    exact ⟨hb, _, _, hg⟩
theorem Kb.of_grown {base c : Nat} {v : Value} {n : Nat} {xs : List Value} {U V : World} (h : U.ownsRow base 5 1 v n xs) (hg : U.grownBy V v.ownBlock) : Kb base c U V :=
  ⟨hg.os, hg.tape, hg.output, hg.size, fun k hk _ hn => hg.block k hk (fun e => by
    obtain ⟨hb, cs, fr, hc⟩ := owns_not h k e.symm
    rcases hn with hn | hn
    · omega
    · exact hn cs fr hc)⟩
theorem conB_ne {base c g : Nat} {p v u : Value} {n : Nat} {xs : List Value} {W : World} (h : conB c g p v W) (ho : W.ownsRow base 5 1 u n xs) : u.ownBlock ≠ some c := by
  intro e
  obtain ⟨_, cs, fr, hc⟩ := owns_not ho c e
  rw [h] at hc
  simp at hc
theorem owns_set {base c i : Nat} {u x : Value} {n : Nat} {xs : List Value} {W : World} (ho : W.ownsRow base 5 1 u n xs) (hne : u.ownBlock ≠ some c) : (W.setCell ⟨c, i, none⟩ x).ownsRow base 5 1 u n xs :=
  ho.kept (row := some c) ⟨rfl, rfl, rfl, by simp [World.setCell], fun k _ hk => Below.heap_setCell _ _ _ _ (fun e => hk (by simp [e]))⟩ (Or.inr hne)
theorem copy90 (base c g : Nat) (p v : Value) (n : Nat) (l : List Value) (w : World) (h : conB c g p v w) (hp : p = .pointer none ∨ p = selfP c) (ho : w.ownsRow base 5 1 v n l) :
    Calls Tryz.prog 90 #[selfP c] w fun e w' => e = .returned (.tuple #[]) ∧ conB c g (selfP c) v w' ∧ w'.ownsRow base 5 1 v n l ∧ Lone c w w' := by
  rcases hp with rfl | rfl
  · refine (copy_fresh c g v w h).mono ?_
    rintro e w' ⟨rfl, rfl⟩
    exact ⟨rfl, h.set1 _, owns_set ho (conB_ne h ho), lone_setCell c 1 w _⟩
  · refine (copy_used c g v w h).mono ?_
    rintro e w' ⟨rfl, rfl⟩
    exact ⟨rfl, h, ho, Lone.refl _ _⟩
theorem write77 (base c g : Nat) (l : List Value) (s : ByteArray) (w : World) (h : bldO base c g l w) (hlen : l.length + s.size ≤ 140737488355328) (hB : base ≤ w.heap.size) :
    Calls Tryz.prog 77 #[selfP c, .string s] w fun e w' => e = .returned (.tuple #[.int .i64 s.size, .nilIface]) ∧ bldO base c g (l ++ Lib.strCells s) w' ∧ Kb base c w w' := by
  obtain ⟨i0, hi, hz0, hz1, hz2⟩ := info_parts info5b
  obtain ⟨p, v, hc, hp, ho⟩ := h
  have K := copy90 base c g p v l.length l w hc hp ho
  go_enter Tryz.func77, Tryz.ntmps77
  go_wp2_with (go_at_call 90; refine K.mono ?_)
  rintro e w1 ⟨rfl, h1, ho1, hl1⟩
  have c2 := h1.c2
  go_wp2_with (at_builtin; refine Lib.wpList_append_own_string _ rfl _ _ 22 9 rfl base 5 i0 Tryz.underlying22 Tryz.underlying9 hi hz0 hz1 hz2 _ _ _ rfl ho1 s rfl ?c3 ?c4 ?c5 ?_)
  case c3 => unfold maxLen; omega
  case c4 => omega
  case c5 => have := hl1.size; omega
  intro v' w2 hown' hgrow _
  have h2 := h1.grown hgrow (conB_ne h1 ho1)
  have d2 := h2.c2
  have f2 := h2.fz 2
  obtain ⟨ao, n', cap, rfl⟩ : ∃ ao n' cap, v' = .slice ao n' cap := by
    rcases hown'.2 with ⟨hv, _⟩ | ⟨g, cap, cur, hv, _⟩
    · exact ⟨_, _, _, hv⟩
    · exact ⟨_, _, _, hv⟩
  have R := And.intro (show bldO base c g (l ++ Lib.strCells s) (w2.setCell ⟨c, 2, none⟩ (.slice ao n' cap)) from ⟨_, _, h2.set2 _, Or.inr rfl, by
    have := owns_set (i := 2) (x := .slice ao n' cap) hown' (conB_ne h2 hown')
    simpa [Lib.strCells_length] using this⟩) (((Kb.of_lone hl1).trans (Kb.of_grown ho1 hgrow)).trans (Kb.of_lone (lone_setCell c 2 w2 (.slice ao n' cap))))
  have HR := hide R
  clear R h2 hgrow hown' ho1 h1 K hp ho hc hl1 hlen hB
  go_wp2
  go_ret2
  exact ⟨rfl, unhide HR⟩
end Go.Proofs.YtbkcgkffafjbgaaGreatDoor
