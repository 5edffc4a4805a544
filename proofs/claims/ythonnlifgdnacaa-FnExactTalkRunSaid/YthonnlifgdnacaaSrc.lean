/- The source of choices: its block in memory; a byte, a number, a text drawn of it. -/
import Derived.Test.YthonnlifgdnacaaBase
import Derived.WalkKit
import Derived.WalkSpells
import Derived.WalkLawsBesides
import Derived.Handy
import Derived.Outline
import Derived.Laws.AppendOwn
import Derived.Deep.AppendLies
import Derived.OwnWalk
import Derived.Deep.QuietTactic
import Derived.BigQuiet
import Derived.BigRegion
import Derived.Deep.RegionHeld3
namespace Go.Proofs.Ythonnlifgdnacaa
open Go.RowKit
set_option maxHeartbeats 1600000
set_option maxRecDepth 100000
abbrev srcO (A : Option Addr) (n cap : Nat) (a s : Int) : Obj := .cells #[.slice A n cap, .int .i64 a, .int .i64 s] 96
/-- a world in which block p holds a source -/
def srcW (w : World) (d p : Nat) (A : Option Addr) (n cap : Nat) (a s : Int) : World := { w with heap := w.heap.setIfInBounds p (srcO A n cap a s), drawn := d }
section
variable (w : World) (d p : Nat) (A : Option Addr) (n cap : Nat) (a s : Int)
theorem get_src (hp : p < w.heap.size) : (srcW w d p A n cap a s).heap[p]? = some (srcO A n cap a s) := by simp [srcW, hp]
theorem get_src_other (k : Nat) (h : k ≠ p) : (srcW w d p A n cap a s).heap[k]? = w.heap[k]? := by
  simp only [srcW]; rw [Array.getElem?_setIfInBounds_ne (by omega)]
@[go_sem] theorem size_src : (srcW w d p A n cap a s).heap.size = w.heap.size := by simp [srcW]
@[go_sem] theorem drew_src : (srcW w d p A n cap a s).drew = srcW w (d + 1) p A n cap a s := rfl
theorem drewN_src (k : Nat) : (srcW w d p A n cap a s).drewN k = srcW w (d + k) p A n cap a s := rfl
@[go_sem] theorem cell_src0 (hp : p < w.heap.size) : (srcW w d p A n cap a s).cell? ⟨p, 0, none⟩ = some (.slice A n cap) := by
  unfold World.cell?; rw [show (⟨p, 0, none⟩ : Addr).block = p from rfl, get_src w d p A n cap a s hp]; rfl
@[go_sem] theorem cell_src1 (hp : p < w.heap.size) : (srcW w d p A n cap a s).cell? ⟨p, 1, none⟩ = some (.int .i64 a) := by
  unfold World.cell?; rw [show (⟨p, 1, none⟩ : Addr).block = p from rfl, get_src w d p A n cap a s hp]; rfl
@[go_sem] theorem cell_src2 (hp : p < w.heap.size) : (srcW w d p A n cap a s).cell? ⟨p, 2, none⟩ = some (.int .i64 s) := by
  unfold World.cell?; rw [show (⟨p, 2, none⟩ : Addr).block = p from rfl, get_src w d p A n cap a s hp]; rfl
@[go_sem] theorem frozen_src (i : Nat) (hp : p < w.heap.size) : (srcW w d p A n cap a s).frozen? ⟨p, i, none⟩ = false := by
  unfold World.frozen?; rw [show (⟨p, i, none⟩ : Addr).block = p from rfl, get_src w d p A n cap a s hp]; simp
@[go_sem] theorem cell_src_other (k i : Nat) (h : k ≠ p) : (srcW w d p A n cap a s).cell? ⟨k, i, none⟩ = w.cell? ⟨k, i, none⟩ := by
  unfold World.cell?; rw [show (⟨k, i, none⟩ : Addr).block = k from rfl, get_src_other w d p A n cap a s k h]
@[go_sem] theorem set_src1 (x : Int) (hp : p < w.heap.size) : (srcW w d p A n cap a s).setCell ⟨p, 1, none⟩ (.int .i64 x) = srcW w d p A n cap x s := by
  unfold World.setCell srcW
  simp only [World.mk.injEq, and_self, and_true]
  apply Array.ext_getElem?
  intro k
  rw [Array.getElem?_modify, Array.getElem?_setIfInBounds, Array.getElem?_setIfInBounds]
  by_cases hk : p = k
  · subst hk; simp [hp]
  · rw [if_neg hk, if_neg hk, if_neg hk]
@[go_sem] theorem set_src2 (x : Int) (hp : p < w.heap.size) : (srcW w d p A n cap a s).setCell ⟨p, 2, none⟩ (.int .i64 x) = srcW w d p A n cap a x := by
  unfold World.setCell srcW
  simp only [World.mk.injEq, and_self, and_true]
  apply Array.ext_getElem?
  intro k
  rw [Array.getElem?_modify, Array.getElem?_setIfInBounds, Array.getElem?_setIfInBounds]
  by_cases hk : p = k
  · subst hk; simp [hp]
  · rw [if_neg hk, if_neg hk, if_neg hk]
theorem src_same (hp : w.heap[p]? = some (srcO A n cap a s)) : srcW w w.drawn p A n cap a s = w := by
  obtain ⟨hh, tp, dr, o, out⟩ := w
  simp only [srcW, World.mk.injEq, and_self, and_true] at *
  apply Array.ext_getElem?
  intro k
  rw [Array.getElem?_setIfInBounds]
  by_cases hk : p = k
  · subst hk
    rw [hp]
    have := (Array.getElem?_eq_some_iff.1 hp).1
    simp [this]
  · rw [if_neg hk]
theorem src_src (w : World) (d d' : Nat) (a' s' : Int) : srcW (srcW w d p A n cap a s) d' p A n cap a' s' = srcW w d' p A n cap a' s' := by simp [srcW]
theorem below_src {B : Nat} {X : World} (h : Below B X w) (hB : B ≤ p) : Below B X (srcW w d p A n cap a s) :=
  ⟨h.os, h.tape, h.output, by rw [size_src]; exact h.size, fun k hk => by rw [get_src_other _ _ _ _ _ _ _ _ _ (by omega)]; exact h.block k hk⟩
end
/-- the bytes that a slice leads to lie in w, none of them in block p -/
def codeIn (w : World) (p : Nat) (A : Option Addr) (n : Nat) : Prop := 0 < n → ∃ b off, A = some ⟨b, off, none⟩ ∧ b ≠ p ∧ ∀ i, i < n → ∃ c : Int, 0 ≤ c ∧ c < 256 ∧ w.cell? ⟨b, off + i, none⟩ = some (.int .u8 c)
theorem byte_any (w : World) (d p : Nat) (A : Option Addr) (n cap k : Nat) (s : Int) (hp : p < w.heap.size) (hn : n ≤ maxLen) (hk : k < 4611686018427387904) (s0 : 0 ≤ s) (s1 : s < 2147483648) (hc : codeIn w p A n) :
    Calls Try.prog 84 #[.pointer (some ⟨p, 0, none⟩)] (srcW w d p A n cap k s) fun e w' => ∃ (c s' : Int) (d' : Nat), e = .returned (.int .i64 c) ∧ 0 ≤ c ∧ c < 256 ∧ 0 ≤ s' ∧ s' < 2147483648 ∧ w' = srcW w d' p A n cap ((k + 1 : Nat) : Int) s' := by
  unfold maxLen at hn
  have q0 : (0 : Int) ≤ (k : Int) := by omega
  have q1 : (k : Int) < 4611686018427387904 := by omega
  by_cases hlt : k < n
  · obtain ⟨b, off, rfl, hbp, hcell⟩ := hc (by omega)
    obtain ⟨c, c0, c1, hcc⟩ := hcell k hlt
    clear hcell hc
    have t1 : (k : Int) + 1 ≤ (n : Int) := by omega
    go_enter Try.func84, Try.ntmps84
    go_wp2
    go_quiet (fail)
    rw [drewN_src]
    go_wp2
    go_region
    go_wp2
    go_region
    go_wp2
    go_ret
    exact ⟨c, (s * 31 + c + 7) % 2147483648, _, rfl, c0, c1, by omega, by omega, rfl⟩
  · have t1 : ¬ ((k : Int) + 1 ≤ (n : Int)) := by omega
    have t2 : decide ((k : Int) + 1 ≤ (n : Int)) = false := by simpa using t1
    by_cases h3 : 3000 < k + 1
    · have t3 : (3000 : Int) < (k : Int) + 1 := by omega
      go_enter Try.func84, Try.ntmps84
      go_wp2
      go_quiet (fail)
      rw [drewN_src]
      go_wp2
      go_ret
      exact ⟨0, s, d + nq, rfl, by omega, by omega, s0, s1, rfl⟩
    · have t3 : (k : Int) + 1 ≤ 3000 := by omega
      have t4 : decide ((3000 : Int) < (k : Int) + 1) = false := by simp; omega
      clear h3 hlt t1 hc hk q1 hn
      go_enter Try.func84, Try.ntmps84
      go_wp2
      go_quiet (fail)
      rw [drewN_src]
      go_wp2
      go_ret
      exact ⟨(s * 1103515245 + 12345) % 2147483648 / 65536 % 256, (s * 1103515245 + 12345) % 2147483648, d + nq, rfl, by omega, by omega, by omega, by omega, rfl⟩
theorem next_any (N : Int) (w : World) (d p : Nat) (A : Option Addr) (n cap k : Nat) (s : Int) (hN : 1 < N) (hN2 : N ≤ 256) (hp : p < w.heap.size) (hn : n ≤ maxLen) (hk : k < 4611686018427387904) (s0 : 0 ≤ s) (s1 : s < 2147483648) (hc : codeIn w p A n) :
    Calls Try.prog 71 #[.pointer (some ⟨p, 0, none⟩), .int .i64 N] (srcW w d p A n cap k s) fun e w' => ∃ (c s' : Int) (d' : Nat), e = .returned (.int .i64 c) ∧ 0 ≤ c ∧ c < N ∧ 0 ≤ s' ∧ s' < 2147483648 ∧ w' = srcW w d' p A n cap ((k + 1 : Nat) : Int) s' := by
  go_enter Try.func71, Try.ntmps71
  go_wp2_with fail
  refine (byte_any w d p A n cap k s hp hn hk s0 s1 hc).mono ?_
  rintro e w1 ⟨c, s', d', rfl, c0, c1, s0', s1', rfl⟩
  go_wp2
  go_ret
  exact ⟨_, s', d', rfl, Int.emod_nonneg _ (by omega), Int.emod_lt_of_pos _ (by omega), s0', s1', rfl⟩
theorem codeIn_grown {w w' : World} {p n : Nat} {A : Option Addr} (h : codeIn w p A n) (hg : w.grownBy w' (some p)) : codeIn w' p A n := fun hn => by
  obtain ⟨b, off, hA, hb, hcell⟩ := h hn
  refine ⟨b, off, hA, hb, fun i hi => ?_⟩
  obtain ⟨c, c0, c1, hc⟩ := hcell i hi
  exact ⟨c, c0, c1, hg.cell hc (by simpa using hb)⟩
theorem grown_src {w w' : World} {d p : Nat} {A : Option Addr} {n cap : Nat} {a s : Int} (h : w.grownBy w' (some p)) : w.grownBy (srcW w' d p A n cap a s) (some p) :=
  ⟨h.os, h.tape, h.output, by rw [size_src]; exact h.size, fun k hk hne => by
    rw [get_src_other _ _ _ _ _ _ _ _ _ (fun e => hne (by rw [e]))]
    exact h.block k hk hne⟩
theorem grown_trans {w w' w'' : World} {p : Nat} {row : Option Nat} (h : w.grownBy w' (some p)) (hg : w'.grownBy w'' row) (hr : ∀ k, row = some k → w.heap.size ≤ k) : w.grownBy w'' (some p) :=
  ⟨hg.os.trans h.os, hg.tape.trans h.tape, hg.output.trans h.output, Nat.le_trans h.size hg.size, fun k hk hne =>
    (hg.block k (Nat.lt_of_lt_of_le hk h.size) (fun e => by have := hr k e.symm; omega)).trans (h.block k hk hne)⟩
theorem own_src {w : World} {d p base : Nat} {A : Option Addr} {n cap : Nat} {a s : Int} {e size : Nat} {v : Value} {m : Nat} {xs : List Value} (h : w.ownsRow base e size v m xs) (hp : p < base) : (srcW w d p A n cap a s).ownsRow base e size v m xs := by
  refine ⟨h.1, ?_⟩
  rcases h.2 with h | ⟨g, c, cur, hv, hb, hg, h1, h2, h3, ht⟩
  · exact .inl h
  · exact .inr ⟨g, c, cur, hv, hb, by rw [get_src_other _ _ _ _ _ _ _ _ _ (by omega)]; exact hg, h1, h2, h3, ht⟩
theorem next_at (N : Int) (w : World) (p : Nat) (A : Option Addr) (n cap k : Nat) (s : Int) (hs : w.heap[p]? = some (srcO A n cap k s)) (hN : 1 < N) (hN2 : N ≤ 256) (hn : n ≤ maxLen) (hk : k < 4611686018427387904) (s0 : 0 ≤ s) (s1 : s < 2147483648) (hc : codeIn w p A n) :
    Calls Try.prog 71 #[.pointer (some ⟨p, 0, none⟩), .int .i64 N] w fun e w' => ∃ (c s' : Int) (d' : Nat), e = .returned (.int .i64 c) ∧ 0 ≤ c ∧ c < N ∧ 0 ≤ s' ∧ s' < 2147483648 ∧ w' = srcW w d' p A n cap ((k + 1 : Nat) : Int) s' := by
  have h := next_any N w w.drawn p A n cap k s hN hN2 (Array.getElem?_eq_some_iff.1 hs).1 hn hk s0 s1 hc
  rw [src_same _ _ _ _ _ _ _ hs] at h
  exact h
theorem own_str {w : World} {base n : Nat} {v : Value} {xs : List Int} (h : w.ownsRow base 5 1 v n (xs.map (Value.int .u8))) (hn : xs.length = n) : (convert 22 9 v).run Try.prog w = .ok (.string (strOfNums xs)) w := by
  rcases h.2 with ⟨rfl, h0⟩ | ⟨g, cap, cur, rfl, hb, hg, h1, h2, h3, ht⟩
  · obtain rfl : xs = [] := List.length_eq_zero_iff.1 (by omega)
    exact run_convert_bytes_nil _ 22 5 Try.underlying22 Try.underlying5 0 0 9 Try.underlying9
  · refine run_convert_bytes_arg _ 22 5 Try.underlying22 Try.underlying5 g 0 n cap xs hn ?_ 9 Try.underlying9
    intro i hi
    rw [Nat.zero_add, Go.cell_of_row _ _ _ _ _ _ hg, ← Array.getElem?_toList]
    have e : (cur.toList.take (n * 1))[i]? = (xs.map (Value.int .u8))[i]? := by rw [ht]
    rw [List.getElem?_take_of_lt (by omega)] at e
    rw [e, List.getElem?_map, List.getD_eq_getElem?_getD, List.getElem?_eq_getElem (by omega)]
    rfl
theorem source_any (A : Option Addr) (n cap : Nat) (hn : n ≤ maxLen) (w : World) :
    Calls Try.prog 44 #[.slice A n cap] w fun e w' => e = .returned (.pointer (some ⟨w.heap.size, 0, none⟩)) ∧ w' = w.alloc (srcO A n cap 0 ((n % 1000 : Nat) : Int)) := by
  unfold maxLen at hn
  go_enter Try.func44, Try.ntmps44
  go_wp2
  go_ret
  exact ⟨rfl, by simp [srcO]⟩
/-- the bytes that a slice leads to lie in w -/
def codeAt (w : World) (A : Option Addr) (n : Nat) : Prop := 0 < n → ∃ b off, A = some ⟨b, off, none⟩ ∧ ∀ i, i < n → ∃ c : Int, 0 ≤ c ∧ c < 256 ∧ w.cell? ⟨b, off + i, none⟩ = some (.int .u8 c)
theorem codeAt_below {w w' : World} {A : Option Addr} {n : Nat} (h : codeAt w A n) (hb : Below w.heap.size w w') : codeAt w' A n := fun hn => by
  obtain ⟨b, off, hA, hcell⟩ := h hn
  refine ⟨b, off, hA, fun i hi => ?_⟩
  obtain ⟨c, c0, c1, hc⟩ := hcell i hi
  exact ⟨c, c0, c1, by rw [hb.cell (World.block_lt_of_cell? w _ hc)]; exact hc⟩
theorem codeIn_alloc {w : World} {A : Option Addr} {n : Nat} (h : codeAt w A n) (o : Obj) : codeIn (w.alloc o) w.heap.size A n := fun hn => by
  obtain ⟨b, off, hA, hcell⟩ := h hn
  obtain ⟨_, _, _, h0⟩ := hcell 0 hn
  have hlt : b < w.heap.size := World.block_lt_of_cell? w _ h0
  refine ⟨b, off, hA, by omega, fun i hi => ?_⟩
  obtain ⟨c, c0, c1, hc⟩ := hcell i hi
  exact ⟨c, c0, c1, by rw [((Below.refl w.heap.size w).alloc (Nat.le_refl _) o).cell hlt]; exact hc⟩
end Go.Proofs.Ythonnlifgdnacaa
