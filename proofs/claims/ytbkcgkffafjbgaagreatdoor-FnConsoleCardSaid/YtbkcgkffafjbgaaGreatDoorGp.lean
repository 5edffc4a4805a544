/- One digit, and the word of a code, by the specification. -/
import Derived.Test.YtbkcgkffafjbgaaGreatDoorGa
import Derived.WalkKit
import Derived.WalkSpells
import Derived.WalkLawsBesides
import Derived.Handy
import Derived.Outline
import Derived.Laws.AppendOwn
import Derived.Deep.AppendLies
import Derived.OwnWalk
import Derived.Deep.QuietTactic
import Derived.BigQuiet
import Derived.BigRegion
import Derived.Deep.RegionHeld3
import Derived.Test.YtbkcgkffafjbgaaGreatDoorGk
/- The source of choices: its block in memory; a byte, a number, a text drawn of it. -/
namespace Go.Proofs.YtbkcgkffafjbgaaGreatDoor
open Go.RowKit
set_option maxHeartbeats 1600000
set_option maxRecDepth 100000
abbrev srcO (A : Option Addr) (n cap : Nat) (a s : Int) : Obj := .cells #[.slice A n cap, .int .i64 a, .int .i64 s] 58
/-- a world in which block p holds a source -/
def srcW (w : World) (d p : Nat) (A : Option Addr) (n cap : Nat) (a s : Int) : World := { w with heap := w.heap.setIfInBounds p (srcO A n cap a s), drawn := d }
section
variable (w : World) (d p : Nat) (A : Option Addr) (n cap : Nat) (a s : Int)
theorem get_src (hp : p < w.heap.size) : (srcW w d p A n cap a s).heap[p]? = some (srcO A n cap a s) := by simp [srcW, hp]
theorem get_src_other (k : Nat) (h : k ≠ p) : (srcW w d p A n cap a s).heap[k]? = w.heap[k]? := by
  simp only [srcW]; rw [Array.getElem?_setIfInBounds_ne (by omega)]
@[go_sem] theorem size_src : (srcW w d p A n cap a s).heap.size = w.heap.size := by simp [srcW]
@[go_sem] theorem drew_src : (srcW w d p A n cap a s).drew = srcW w (d + 1) p A n cap a s := rfl
theorem drewN_src (k : Nat) : (srcW w d p A n cap a s).drewN k = srcW w (d + k) p A n cap a s := rfl
@[go_sem] theorem cell_src0 (hp : p < w.heap.size) : (srcW w d p A n cap a s).cell? ⟨p, 0, none⟩ = some (.slice A n cap) := by
  unfold World.cell?; rw [show (⟨p, 0, none⟩ : Addr).block = p from rfl, get_src w d p A n cap a s hp]; rfl
@[go_sem] theorem cell_src1 (hp : p < w.heap.size) : (srcW w d p A n cap a s).cell? ⟨p, 1, none⟩ = some (.int .i64 a) := by
  unfold World.cell?; rw [show (⟨p, 1, none⟩ : Addr).block = p from rfl, get_src w d p A n cap a s hp]; rfl
@[go_sem] theorem cell_src2 (hp : p < w.heap.size) : (srcW w d p A n cap a s).cell? ⟨p, 2, none⟩ = some (.int .i64 s) := by
  unfold World.cell?; rw [show (⟨p, 2, none⟩ : Addr).block = p from rfl, get_src w d p A n cap a s hp]; rfl
@[go_sem] theorem frozen_src (i : Nat) (hp : p < w.heap.size) : (srcW w d p A n cap a s).frozen? ⟨p, i, none⟩ = false := by
  unfold World.frozen?; rw [show (⟨p, i, none⟩ : Addr).block = p from rfl, get_src w d p A n cap a s hp]; simp
@[go_sem] theorem cell_src_other (k i : Nat) (h : k ≠ p) : (srcW w d p A n cap a s).cell? ⟨k, i, none⟩ = w.cell? ⟨k, i, none⟩ := by
  unfold World.cell?; rw [show (⟨k, i, none⟩ : Addr).block = k from rfl, get_src_other w d p A n cap a s k h]
@[go_sem] theorem set_src1 (x : Int) (hp : p < w.heap.size) : (srcW w d p A n cap a s).setCell ⟨p, 1, none⟩ (.int .i64 x) = srcW w d p A n cap x s := by
  unfold World.setCell srcW
  simp only [World.mk.injEq, and_self, and_true]
  apply Array.ext_getElem?
  intro k
  rw [Array.getElem?_modify, Array.getElem?_setIfInBounds, Array.getElem?_setIfInBounds]
  by_cases hk : p = k
  · subst hk; simp [hp]
  · rw [if_neg hk, if_neg hk, if_neg hk]
@[go_sem] theorem set_src2 (x : Int) (hp : p < w.heap.size) : (srcW w d p A n cap a s).setCell ⟨p, 2, none⟩ (.int .i64 x) = srcW w d p A n cap a x := by
  unfold World.setCell srcW
  simp only [World.mk.injEq, and_self, and_true]
  apply Array.ext_getElem?
  intro k
  rw [Array.getElem?_modify, Array.getElem?_setIfInBounds, Array.getElem?_setIfInBounds]
  by_cases hk : p = k
  · subst hk; simp [hp]
  · rw [if_neg hk, if_neg hk, if_neg hk]
theorem src_same (hp : w.heap[p]? = some (srcO A n cap a s)) : srcW w w.drawn p A n cap a s = w := by
  obtain ⟨hh, tp, dr, o, out⟩ := w
  simp only [srcW, World.mk.injEq, and_self, and_true] at *
  apply Array.ext_getElem?
  intro k
  rw [Array.getElem?_setIfInBounds]
  by_cases hk : p = k
  · subst hk
    rw [hp]
    have := (Array.getElem?_eq_some_iff.1 hp).1
    simp [this]
  · rw [if_neg hk]
theorem src_src (w : World) (d d' : Nat) (a' s' : Int) : srcW (srcW w d p A n cap a s) d' p A n cap a' s' = srcW w d' p A n cap a' s' := by simp [srcW]
theorem below_src {B : Nat} {X : World} (h : Below B X w) (hB : B ≤ p) : Below B X (srcW w d p A n cap a s) :=
  ⟨h.os, h.tape, h.output, by rw [size_src]; exact h.size, fun k hk => by rw [get_src_other _ _ _ _ _ _ _ _ _ (by omega)]; exact h.block k hk⟩
end
/-- the bytes that a slice leads to lie in w, none of them in block p -/
def codeIn (w : World) (p : Nat) (A : Option Addr) (n : Nat) : Prop := 0 < n → ∃ b off, A = some ⟨b, off, none⟩ ∧ b ≠ p ∧ ∀ i, i < n → ∃ c : Int, 0 ≤ c ∧ c < 256 ∧ w.cell? ⟨b, off + i, none⟩ = some (.int .u8 c)
theorem byte_any (w : World) (d p : Nat) (A : Option Addr) (n cap k : Nat) (s : Int) (hp : p < w.heap.size) (hn : n ≤ maxLen) (hk : k < 4611686018427387904) (s0 : 0 ≤ s) (s1 : s < 2147483648) (hc : codeIn w p A n) :
    Calls Tryz.prog 41 #[.pointer (some ⟨p, 0, none⟩)] (srcW w d p A n cap k s) fun e w' => ∃ (c s' : Int) (d' : Nat), e = .returned (.int .i64 c) ∧ 0 ≤ c ∧ c < 256 ∧ 0 ≤ s' ∧ s' < 2147483648 ∧ w' = srcW w d' p A n cap ((k + 1 : Nat) : Int) s' := by
  unfold maxLen at hn
  have q0 : (0 : Int) ≤ (k : Int) := by omega
  have q1 : (k : Int) < 4611686018427387904 := by omega
  by_cases hlt : k < n
  · obtain ⟨b, off, rfl, hbp, hcell⟩ := hc (by omega)
    obtain ⟨c, c0, c1, hcc⟩ := hcell k hlt
    clear hcell hc
    have t1 : (k : Int) + 1 ≤ (n : Int) := by omega
    go_enter Tryz.func41, Tryz.ntmps41
    go_wp2
    go_quiet (fail)
    rw [drewN_src]
    go_wp2
    go_region
    go_wp2
    go_region
    go_wp2
    go_ret
    exact ⟨c, (s * 31 + c + 7) % 2147483648, _, rfl, c0, c1, by omega, by omega, rfl⟩
  · have t1 : ¬ ((k : Int) + 1 ≤ (n : Int)) := by omega
    have t2 : decide ((k : Int) + 1 ≤ (n : Int)) = false := by simpa using t1
    by_cases h3 : 3000 < k + 1
    · have t3 : (3000 : Int) < (k : Int) + 1 := by omega
      go_enter Tryz.func41, Tryz.ntmps41
      go_wp2
      go_quiet (fail)
      rw [drewN_src]
      go_wp2
      go_ret
      exact ⟨0, s, d + nq, rfl, by omega, by omega, s0, s1, rfl⟩
    · have t3 : (k : Int) + 1 ≤ 3000 := by omega
      have t4 : decide ((3000 : Int) < (k : Int) + 1) = false := by simp; omega
      clear h3 hlt t1 hc hk q1 hn
      go_enter Tryz.func41, Tryz.ntmps41
      go_wp2
      go_quiet (fail)
      rw [drewN_src]
      go_wp2
      go_ret
      exact ⟨(s * 1103515245 + 12345) % 2147483648 / 65536 % 256, (s * 1103515245 + 12345) % 2147483648, d + nq, rfl, by omega, by omega, by omega, by omega, rfl⟩
theorem next_any (N : Int) (w : World) (d p : Nat) (A : Option Addr) (n cap k : Nat) (s : Int) (hN : 1 < N) (hN2 : N ≤ 256) (hp : p < w.heap.size) (hn : n ≤ maxLen) (hk : k < 4611686018427387904) (s0 : 0 ≤ s) (s1 : s < 2147483648) (hc : codeIn w p A n) :
    Calls Tryz.prog 25 #[.pointer (some ⟨p, 0, none⟩), .int .i64 N] (srcW w d p A n cap k s) fun e w' => ∃ (c s' : Int) (d' : Nat), e = .returned (.int .i64 c) ∧ 0 ≤ c ∧ c < N ∧ 0 ≤ s' ∧ s' < 2147483648 ∧ w' = srcW w d' p A n cap ((k + 1 : Nat) : Int) s' := by
  go_enter Tryz.func25, Tryz.ntmps25
  go_wp2_with fail
  refine (byte_any w d p A n cap k s hp hn hk s0 s1 hc).mono ?_
  rintro e w1 ⟨c, s', d', rfl, c0, c1, s0', s1', rfl⟩
  go_wp2
  go_ret
  exact ⟨_, s', d', rfl, Int.emod_nonneg _ (by omega), Int.emod_lt_of_pos _ (by omega), s0', s1', rfl⟩
theorem codeIn_grown {w w' : World} {p n : Nat} {A : Option Addr} (h : codeIn w p A n) (hg : w.grownBy w' (some p)) : codeIn w' p A n := fun hn => by
  obtain ⟨b, off, hA, hb, hcell⟩ := h hn
  refine ⟨b, off, hA, hb, fun i hi => ?_⟩
  obtain ⟨c, c0, c1, hc⟩ := hcell i hi
  exact ⟨c, c0, c1, hg.cell hc (by simpa using hb)⟩
theorem grown_src {w w' : World} {d p : Nat} {A : Option Addr} {n cap : Nat} {a s : Int} (h : w.grownBy w' (some p)) : w.grownBy (srcW w' d p A n cap a s) (some p) :=
  ⟨h.os, h.tape, h.output, by rw [size_src]; exact h.size, fun k hk hne => by
    rw [get_src_other _ _ _ _ _ _ _ _ _ (fun e => hne (by rw [e]))]
    exact h.block k hk hne⟩
theorem grown_trans {w w' w'' : World} {p : Nat} {row : Option Nat} (h : w.grownBy w' (some p)) (hg : w'.grownBy w'' row) (hr : ∀ k, row = some k → w.heap.size ≤ k) : w.grownBy w'' (some p) :=
  ⟨hg.os.trans h.os, hg.tape.trans h.tape, hg.output.trans h.output, Nat.le_trans h.size hg.size, fun k hk hne =>
    (hg.block k (Nat.lt_of_lt_of_le hk h.size) (fun e => by have := hr k e.symm; omega)).trans (h.block k hk hne)⟩
theorem own_src {w : World} {d p base : Nat} {A : Option Addr} {n cap : Nat} {a s : Int} {e size : Nat} {v : Value} {m : Nat} {xs : List Value} (h : w.ownsRow base e size v m xs) (hp : p < base) : (srcW w d p A n cap a s).ownsRow base e size v m xs := by
  refine ⟨h.1, ?_⟩
  rcases h.2 with h | ⟨g, c, cur, hv, hb, hg, h1, h2, h3, ht⟩
  · exact .inl h
  · exact .inr ⟨g, c, cur, hv, hb, by rw [get_src_other _ _ _ _ _ _ _ _ _ (by omega)]; exact hg, h1, h2, h3, ht⟩
theorem next_at (N : Int) (w : World) (p : Nat) (A : Option Addr) (n cap k : Nat) (s : Int) (hs : w.heap[p]? = some (srcO A n cap k s)) (hN : 1 < N) (hN2 : N ≤ 256) (hn : n ≤ maxLen) (hk : k < 4611686018427387904) (s0 : 0 ≤ s) (s1 : s < 2147483648) (hc : codeIn w p A n) :
    Calls Tryz.prog 25 #[.pointer (some ⟨p, 0, none⟩), .int .i64 N] w fun e w' => ∃ (c s' : Int) (d' : Nat), e = .returned (.int .i64 c) ∧ 0 ≤ c ∧ c < N ∧ 0 ≤ s' ∧ s' < 2147483648 ∧ w' = srcW w d' p A n cap ((k + 1 : Nat) : Int) s' := by
  have h := next_any N w w.drawn p A n cap k s hN hN2 (Array.getElem?_eq_some_iff.1 hs).1 hn hk s0 s1 hc
  rw [src_same _ _ _ _ _ _ _ hs] at h
  exact h
theorem own_str {w : World} {base n : Nat} {v : Value} {xs : List Int} (h : w.ownsRow base 5 1 v n (xs.map (Value.int .u8))) (hn : xs.length = n) : (convert 22 9 v).run Tryz.prog w = .ok (.string (strOfNums xs)) w := by
  rcases h.2 with ⟨rfl, h0⟩ | ⟨g, cap, cur, rfl, hb, hg, h1, h2, h3, ht⟩
  · obtain rfl : xs = [] := List.length_eq_zero_iff.1 (by omega)
    exact run_convert_bytes_nil _ 22 5 Tryz.underlying22 Tryz.underlying5 0 0 9 Tryz.underlying9
  · refine run_convert_bytes_arg _ 22 5 Tryz.underlying22 Tryz.underlying5 g 0 n cap xs hn ?_ 9 Tryz.underlying9
    intro i hi
    rw [Nat.zero_add, Go.cell_of_row _ _ _ _ _ _ hg, ← Array.getElem?_toList]
    have e : (cur.toList.take (n * 1))[i]? = (xs.map (Value.int .u8))[i]? := by rw [ht]
    rw [List.getElem?_take_of_lt (by omega)] at e
    rw [e, List.getElem?_map, List.getD_eq_getElem?_getD, List.getElem?_eq_getElem (by omega)]
    rfl
theorem source_any (A : Option Addr) (n cap : Nat) (hn : n ≤ maxLen) (w : World) :
    Calls Tryz.prog 11 #[.slice A n cap] w fun e w' => e = .returned (.pointer (some ⟨w.heap.size, 0, none⟩)) ∧ w' = w.alloc (srcO A n cap 0 ((n % 1000 : Nat) : Int)) := by
  unfold maxLen at hn
  go_enter Tryz.func11, Tryz.ntmps11
  go_wp2
  go_ret
  exact ⟨rfl, by simp [srcO]⟩
/-- the bytes that a slice leads to lie in w -/
def codeAt (w : World) (A : Option Addr) (n : Nat) : Prop := 0 < n → ∃ b off, A = some ⟨b, off, none⟩ ∧ ∀ i, i < n → ∃ c : Int, 0 ≤ c ∧ c < 256 ∧ w.cell? ⟨b, off + i, none⟩ = some (.int .u8 c)
theorem codeAt_below {w w' : World} {A : Option Addr} {n : Nat} (h : codeAt w A n) (hb : Below w.heap.size w w') : codeAt w' A n := fun hn => by
  obtain ⟨b, off, hA, hcell⟩ := h hn
  refine ⟨b, off, hA, fun i hi => ?_⟩
  obtain ⟨c, c0, c1, hc⟩ := hcell i hi
  exact ⟨c, c0, c1, by rw [hb.cell (World.block_lt_of_cell? w _ hc)]; exact hc⟩
theorem codeIn_alloc {w : World} {A : Option Addr} {n : Nat} (h : codeAt w A n) (o : Obj) : codeIn (w.alloc o) w.heap.size A n := fun hn => by
  obtain ⟨b, off, hA, hcell⟩ := h hn
  obtain ⟨_, _, _, h0⟩ := hcell 0 hn
  have hlt : b < w.heap.size := World.block_lt_of_cell? w _ h0
  refine ⟨b, off, hA, by omega, fun i hi => ?_⟩
  obtain ⟨c, c0, c1, hc⟩ := hcell i hi
  exact ⟨c, c0, c1, by rw [((Below.refl w.heap.size w).alloc (Nat.le_refl _) o).cell hlt]; exact hc⟩
end Go.Proofs.YtbkcgkffafjbgaaGreatDoor
/- One digit, and the word of a code, by the specification. -/
namespace Go.Proofs.YtbkcgkffafjbgaaGreatDoor
open Go.RowKit
set_option maxHeartbeats 4000000
set_option maxRecDepth 20000
set_option linter.unusedVariables false
theorem dig_nums {n : Nat} (h : n < 10) : strOfNums [48 + (n : Int)] = bs (digB n) := by
  unfold strOfNums bs digB
  have : (48 + (n : Int)).toNat = 48 + n := by omega
  simp [this]
theorem dig_run (w : World) (x : Int) : (convert 22 9 (.slice (some ⟨w.heap.size, 0, none⟩) 1 1)).run Tryz.prog (w.alloc (.cells #[.int .u8 x] 5)) = .ok (.string (strOfNums [x])) (w.alloc (.cells #[.int .u8 x] 5)) :=
  own_str (w := w.alloc (.cells #[.int .u8 x] 5)) (base := w.heap.size) (n := 1) (v := .slice (some ⟨w.heap.size, 0, none⟩) 1 1) (xs := [x]) ⟨rfl, .inr ⟨w.heap.size, 1, #[.int .u8 x], rfl, Nat.le_refl _, heap_at _ _ _ rfl, Nat.le_refl _, by unfold maxLen; omega, rfl, rfl⟩⟩ rfl
theorem digit21 (i : Nat) (w : World) (hi : i < 10) : Calls Tryz.prog 21 #[.int .i64 i] w fun e w' => e = .returned (.string (bs (digB i))) ∧ Below w.heap.size w w' := by
  have i0 : (0 : Int) ≤ (i : Int) := by omega
  have i1 : (i : Int) < 10 := by omega
  have i2 : ((i : Int) == -9223372036854775808) = false := by rw [beq_eq_false_iff_ne]; omega
  have ed := dig_nums hi
  obtain ⟨x, hx⟩ : ∃ x : Int, 48 + (i : Int) = x := ⟨_, rfl⟩
  have x0 : 0 ≤ x := by omega
  have x1 : x < 256 := by omega
  have hc := dig_run w x
  rw [hx] at ed
  rw [ed] at hc
  generalize bs (digB i) = t at *
  clear hi ed
  go_enter Tryz.func21, Tryz.ntmps21
  go_wp2
  go_ret
  exact ⟨rfl, bl_al (Below.refl _ _)⟩
abbrev cwA : Array Value := #[.string ⟨#[111, 107]⟩, .string ⟨#[98, 97, 100]⟩, .string ⟨#[108, 111, 110, 103]⟩, .string ⟨#[102, 111, 114, 109]⟩, .string ⟨#[114, 97, 110, 103, 101]⟩, .string ⟨#[110, 111, 110, 101]⟩, .string ⟨#[109, 97, 110, 121]⟩, .string ⟨#[102, 117, 108, 108]⟩, .string ⟨#[115, 117, 109]⟩, .string ⟨#[116, 119, 105, 99, 101]⟩, .string ⟨#[115, 101, 97, 108, 101, 100]⟩, .string ⟨#[114, 111, 111, 116]⟩, .string ⟨#[114, 101, 112, 108, 97, 121]⟩, .string ⟨#[108, 97, 116, 101]⟩, .string ⟨#[109, 105, 115, 115, 105, 110, 103]⟩, .string ⟨#[97, 98, 111, 114, 116, 101, 100]⟩, .string ⟨#[115, 105, 108, 101, 110, 116]⟩, .string ⟨#[113, 117, 101, 117, 101]⟩, .string ⟨#[97, 103, 97, 105, 110]⟩, .string ⟨#[122, 101, 114, 111]⟩]
theorem cwA_eq : cwA = (cws.map fun l => Value.string (bs l)).toArray := rfl
theorem word23 (k : Nat) (w : World) (hk : k < 20) : Calls Tryz.prog 23 #[.int .i64 k] w fun e w' => e = .returned (.string (bs (codeB k))) ∧ Below w.heap.size w w' := by
  have hc : (w.alloc (.cells cwA 9)).cell? ⟨w.heap.size, k, none⟩ = some (.string (bs (codeB k))) := by
    rw [row_cell (heap_alloc_new w _), cwA_eq, List.getElem?_toArray, List.getElem?_map]
    have hl : cws.length = 20 := rfl
    have : cws[k]? = some (codeB k) := by
      unfold codeB
      rw [List.getD_eq_getElem?_getD]
      have hk' : (k : Int).toNat = k := rfl
      rw [hk', List.getElem?_eq_getElem (by omega)]
      rfl
    rw [this]
    rfl
  have q0 : ((k : Int) < 0) = False := by simp
  have q1 : ((20 : Int) ≤ (k : Int)) = False := by simp; omega
  have q2 : (k : Int) < 20 := by omega
  have q3 : (0 : Int) ≤ (k : Int) := by omega
  have HB : Hid (Below w.heap.size w (w.alloc (.cells cwA 9))) := hide (bl_al (Below.refl _ _))
  generalize bs (codeB k) = x at *
  go_enter Tryz.func23, Tryz.ntmps23
  go_wp2
  go_ret
  exact ⟨rfl, unhide HB⟩
end Go.Proofs.YtbkcgkffafjbgaaGreatDoor
