/- For every argument the law returns true, and each argument reads behind the call as it read before; no condition. -/
import Derived.Test.YtecphhfdleaklaaRows
import Derived.WalkKit
import Derived.WalkSpells
import Derived.WalkLawsBesides
import Derived.Handy
import Derived.Outline
import Derived.Laws.AppendOwn
import Derived.Deep.AppendLies
import Derived.OwnWalk
import Derived.Deep.QuietTactic
import Derived.BigQuiet
import Derived.BigRegion
import Derived.Deep.RegionHeld3
import Derived.ProofKit
import Derived.OpenShut
import Derived.Test.YtecphhfdleaklaaOpPub
import Derived.Test.YtecphhfdleaklaaOpSec
import Derived.Test.YtecphhfdleaklaaCurveAll
import Derived.Test.YtecphhfdleaklaaOpDbl
import Derived.Test.YtecphhfdleaklaaHead
import Derived.ShutString
import Derived.Carry
/- The source of choices: its block in memory; a byte, a number, a text drawn of it. -/
namespace Go.Proofs.Ytecphhfdleaklaa
open Go.RowKit
set_option maxHeartbeats 1600000
set_option maxRecDepth 100000
abbrev srcO (A : Option Addr) (n cap : Nat) (a s : Int) : Obj := .cells #[.slice A n cap, .int .i64 a, .int .i64 s] 64
/-- a world in which block p holds a source -/
def srcW (w : World) (d p : Nat) (A : Option Addr) (n cap : Nat) (a s : Int) : World := { w with heap := w.heap.setIfInBounds p (srcO A n cap a s), drawn := d }
section
variable (w : World) (d p : Nat) (A : Option Addr) (n cap : Nat) (a s : Int)
theorem get_src (hp : p < w.heap.size) : (srcW w d p A n cap a s).heap[p]? = some (srcO A n cap a s) := by simp [srcW, hp]
theorem get_src_other (k : Nat) (h : k ≠ p) : (srcW w d p A n cap a s).heap[k]? = w.heap[k]? := by
  simp only [srcW]; rw [Array.getElem?_setIfInBounds_ne (by omega)]
@[go_sem] theorem size_src : (srcW w d p A n cap a s).heap.size = w.heap.size := by simp [srcW]
@[go_sem] theorem drew_src : (srcW w d p A n cap a s).drew = srcW w (d + 1) p A n cap a s := rfl
theorem drewN_src (k : Nat) : (srcW w d p A n cap a s).drewN k = srcW w (d + k) p A n cap a s := rfl
@[go_sem] theorem cell_src0 (hp : p < w.heap.size) : (srcW w d p A n cap a s).cell? ⟨p, 0, none⟩ = some (.slice A n cap) := by
  unfold World.cell?; rw [show (⟨p, 0, none⟩ : Addr).block = p from rfl, get_src w d p A n cap a s hp]; rfl
@[go_sem] theorem cell_src1 (hp : p < w.heap.size) : (srcW w d p A n cap a s).cell? ⟨p, 1, none⟩ = some (.int .i64 a) := by
  unfold World.cell?; rw [show (⟨p, 1, none⟩ : Addr).block = p from rfl, get_src w d p A n cap a s hp]; rfl
@[go_sem] theorem cell_src2 (hp : p < w.heap.size) : (srcW w d p A n cap a s).cell? ⟨p, 2, none⟩ = some (.int .i64 s) := by
  unfold World.cell?; rw [show (⟨p, 2, none⟩ : Addr).block = p from rfl, get_src w d p A n cap a s hp]; rfl
@[go_sem] theorem frozen_src (i : Nat) (hp : p < w.heap.size) : (srcW w d p A n cap a s).frozen? ⟨p, i, none⟩ = false := by
  unfold World.frozen?; rw [show (⟨p, i, none⟩ : Addr).block = p from rfl, get_src w d p A n cap a s hp]; simp
@[go_sem] theorem cell_src_other (k i : Nat) (h : k ≠ p) : (srcW w d p A n cap a s).cell? ⟨k, i, none⟩ = w.cell? ⟨k, i, none⟩ := by
  unfold World.cell?; rw [show (⟨k, i, none⟩ : Addr).block = k from rfl, get_src_other w d p A n cap a s k h]
@[go_sem] theorem set_src1 (x : Int) (hp : p < w.heap.size) : (srcW w d p A n cap a s).setCell ⟨p, 1, none⟩ (.int .i64 x) = srcW w d p A n cap x s := by
  unfold World.setCell srcW
  simp only [World.mk.injEq, and_self, and_true]
  apply Array.ext_getElem?
  intro k
  rw [Array.getElem?_modify, Array.getElem?_setIfInBounds, Array.getElem?_setIfInBounds]
  by_cases hk : p = k
  · subst hk; simp [hp]
  · rw [if_neg hk, if_neg hk, if_neg hk]
@[go_sem] theorem set_src2 (x : Int) (hp : p < w.heap.size) : (srcW w d p A n cap a s).setCell ⟨p, 2, none⟩ (.int .i64 x) = srcW w d p A n cap a x := by
  unfold World.setCell srcW
  simp only [World.mk.injEq, and_self, and_true]
  apply Array.ext_getElem?
  intro k
  rw [Array.getElem?_modify, Array.getElem?_setIfInBounds, Array.getElem?_setIfInBounds]
  by_cases hk : p = k
  · subst hk; simp [hp]
  · rw [if_neg hk, if_neg hk, if_neg hk]
theorem src_same (hp : w.heap[p]? = some (srcO A n cap a s)) : srcW w w.drawn p A n cap a s = w := by
  obtain ⟨hh, tp, dr, o, out⟩ := w
  simp only [srcW, World.mk.injEq, and_self, and_true] at *
  apply Array.ext_getElem?
  intro k
  rw [Array.getElem?_setIfInBounds]
  by_cases hk : p = k
  · subst hk
    rw [hp]
    have := (Array.getElem?_eq_some_iff.1 hp).1
    simp [this]
  · rw [if_neg hk]
theorem src_src (w : World) (d d' : Nat) (a' s' : Int) : srcW (srcW w d p A n cap a s) d' p A n cap a' s' = srcW w d' p A n cap a' s' := by simp [srcW]
theorem below_src {B : Nat} {X : World} (h : Below B X w) (hB : B ≤ p) : Below B X (srcW w d p A n cap a s) :=
  ⟨h.os, h.tape, h.output, by rw [size_src]; exact h.size, fun k hk => by rw [get_src_other _ _ _ _ _ _ _ _ _ (by omega)]; exact h.block k hk⟩
end
/-- the bytes that a slice leads to lie in w, none of them in block p -/
def codeIn (w : World) (p : Nat) (A : Option Addr) (n : Nat) : Prop := 0 < n → ∃ b off, A = some ⟨b, off, none⟩ ∧ b ≠ p ∧ ∀ i, i < n → ∃ c : Int, 0 ≤ c ∧ c < 256 ∧ w.cell? ⟨b, off + i, none⟩ = some (.int .u8 c)
theorem byte_any (w : World) (d p : Nat) (A : Option Addr) (n cap k : Nat) (s : Int) (hp : p < w.heap.size) (hn : n ≤ maxLen) (hk : k < 4611686018427387904) (s0 : 0 ≤ s) (s1 : s < 2147483648) (hc : codeIn w p A n) :
    Calls Try.prog 104 #[.pointer (some ⟨p, 0, none⟩)] (srcW w d p A n cap k s) fun e w' => ∃ (c s' : Int) (d' : Nat), e = .returned (.int .i64 c) ∧ 0 ≤ c ∧ c < 256 ∧ 0 ≤ s' ∧ s' < 2147483648 ∧ w' = srcW w d' p A n cap ((k + 1 : Nat) : Int) s' := by
  unfold maxLen at hn
  have q0 : (0 : Int) ≤ (k : Int) := by omega
  have q1 : (k : Int) < 4611686018427387904 := by omega
  by_cases hlt : k < n
  · obtain ⟨b, off, rfl, hbp, hcell⟩ := hc (by omega)
    obtain ⟨c, c0, c1, hcc⟩ := hcell k hlt
    clear hcell hc
    have t1 : (k : Int) + 1 ≤ (n : Int) := by omega
    go_enter Try.func104, Try.ntmps104
    go_wp2
    go_quiet (fail)
    rw [drewN_src]
    go_wp2
    go_region
    go_wp2
    go_region
    go_wp2
    go_ret
    exact ⟨c, (s * 31 + c + 7) % 2147483648, _, rfl, c0, c1, by omega, by omega, rfl⟩
  · have t1 : ¬ ((k : Int) + 1 ≤ (n : Int)) := by omega
    have t2 : decide ((k : Int) + 1 ≤ (n : Int)) = false := by simpa using t1
    by_cases h3 : 3000 < k + 1
    · have t3 : (3000 : Int) < (k : Int) + 1 := by omega
      go_enter Try.func104, Try.ntmps104
      go_wp2
      go_quiet (fail)
      rw [drewN_src]
      go_wp2
      go_ret
      exact ⟨0, s, d + nq, rfl, by omega, by omega, s0, s1, rfl⟩
    · have t3 : (k : Int) + 1 ≤ 3000 := by omega
      have t4 : decide ((3000 : Int) < (k : Int) + 1) = false := by simp; omega
      clear h3 hlt t1 hc hk q1 hn
      go_enter Try.func104, Try.ntmps104
      go_wp2
      go_quiet (fail)
      rw [drewN_src]
      go_wp2
      go_ret
      exact ⟨(s * 1103515245 + 12345) % 2147483648 / 65536 % 256, (s * 1103515245 + 12345) % 2147483648, d + nq, rfl, by omega, by omega, by omega, by omega, rfl⟩
theorem next_any (N : Int) (w : World) (d p : Nat) (A : Option Addr) (n cap k : Nat) (s : Int) (hN : 1 < N) (hN2 : N ≤ 256) (hp : p < w.heap.size) (hn : n ≤ maxLen) (hk : k < 4611686018427387904) (s0 : 0 ≤ s) (s1 : s < 2147483648) (hc : codeIn w p A n) :
    Calls Try.prog 93 #[.pointer (some ⟨p, 0, none⟩), .int .i64 N] (srcW w d p A n cap k s) fun e w' => ∃ (c s' : Int) (d' : Nat), e = .returned (.int .i64 c) ∧ 0 ≤ c ∧ c < N ∧ 0 ≤ s' ∧ s' < 2147483648 ∧ w' = srcW w d' p A n cap ((k + 1 : Nat) : Int) s' := by
  go_enter Try.func93, Try.ntmps93
  go_wp2_with fail
  refine (byte_any w d p A n cap k s hp hn hk s0 s1 hc).mono ?_
  rintro e w1 ⟨c, s', d', rfl, c0, c1, s0', s1', rfl⟩
  go_wp2
  go_ret
  exact ⟨_, s', d', rfl, Int.emod_nonneg _ (by omega), Int.emod_lt_of_pos _ (by omega), s0', s1', rfl⟩
theorem codeIn_grown {w w' : World} {p n : Nat} {A : Option Addr} (h : codeIn w p A n) (hg : w.grownBy w' (some p)) : codeIn w' p A n := fun hn => by
  obtain ⟨b, off, hA, hb, hcell⟩ := h hn
  refine ⟨b, off, hA, hb, fun i hi => ?_⟩
  obtain ⟨c, c0, c1, hc⟩ := hcell i hi
  exact ⟨c, c0, c1, hg.cell hc (by simpa using hb)⟩
theorem grown_src {w w' : World} {d p : Nat} {A : Option Addr} {n cap : Nat} {a s : Int} (h : w.grownBy w' (some p)) : w.grownBy (srcW w' d p A n cap a s) (some p) :=
  ⟨h.os, h.tape, h.output, by rw [size_src]; exact h.size, fun k hk hne => by
    rw [get_src_other _ _ _ _ _ _ _ _ _ (fun e => hne (by rw [e]))]
    exact h.block k hk hne⟩
theorem grown_trans {w w' w'' : World} {p : Nat} {row : Option Nat} (h : w.grownBy w' (some p)) (hg : w'.grownBy w'' row) (hr : ∀ k, row = some k → w.heap.size ≤ k) : w.grownBy w'' (some p) :=
  ⟨hg.os.trans h.os, hg.tape.trans h.tape, hg.output.trans h.output, Nat.le_trans h.size hg.size, fun k hk hne =>
    (hg.block k (Nat.lt_of_lt_of_le hk h.size) (fun e => by have := hr k e.symm; omega)).trans (h.block k hk hne)⟩
theorem own_src {w : World} {d p base : Nat} {A : Option Addr} {n cap : Nat} {a s : Int} {e size : Nat} {v : Value} {m : Nat} {xs : List Value} (h : w.ownsRow base e size v m xs) (hp : p < base) : (srcW w d p A n cap a s).ownsRow base e size v m xs := by
  refine ⟨h.1, ?_⟩
  rcases h.2 with h | ⟨g, c, cur, hv, hb, hg, h1, h2, h3, ht⟩
  · exact .inl h
  · exact .inr ⟨g, c, cur, hv, hb, by rw [get_src_other _ _ _ _ _ _ _ _ _ (by omega)]; exact hg, h1, h2, h3, ht⟩
theorem next_at (N : Int) (w : World) (p : Nat) (A : Option Addr) (n cap k : Nat) (s : Int) (hs : w.heap[p]? = some (srcO A n cap k s)) (hN : 1 < N) (hN2 : N ≤ 256) (hn : n ≤ maxLen) (hk : k < 4611686018427387904) (s0 : 0 ≤ s) (s1 : s < 2147483648) (hc : codeIn w p A n) :
    Calls Try.prog 93 #[.pointer (some ⟨p, 0, none⟩), .int .i64 N] w fun e w' => ∃ (c s' : Int) (d' : Nat), e = .returned (.int .i64 c) ∧ 0 ≤ c ∧ c < N ∧ 0 ≤ s' ∧ s' < 2147483648 ∧ w' = srcW w d' p A n cap ((k + 1 : Nat) : Int) s' := by
  have h := next_any N w w.drawn p A n cap k s hN hN2 (Array.getElem?_eq_some_iff.1 hs).1 hn hk s0 s1 hc
  rw [src_same _ _ _ _ _ _ _ hs] at h
  exact h
theorem info5 : (Try.prog.info? 5).map (fun i => (i.zero, i.size, i.bytes)) = some (some (.int .u8 0), 1, 1) := by kernel_rfl
theorem own_str {w : World} {base n : Nat} {v : Value} {xs : List Int} (h : w.ownsRow base 5 1 v n (xs.map (Value.int .u8))) (hn : xs.length = n) : (convert 22 9 v).run Try.prog w = .ok (.string (strOfNums xs)) w := by
  rcases h.2 with ⟨rfl, h0⟩ | ⟨g, cap, cur, rfl, hb, hg, h1, h2, h3, ht⟩
  · obtain rfl : xs = [] := List.length_eq_zero_iff.1 (by omega)
    exact run_convert_bytes_nil _ 22 5 Try.underlying22 Try.underlying5 0 0 9 Try.underlying9
  · refine run_convert_bytes_arg _ 22 5 Try.underlying22 Try.underlying5 g 0 n cap xs hn ?_ 9 Try.underlying9
    intro i hi
    rw [Nat.zero_add, Go.cell_of_row _ _ _ _ _ _ hg, ← Array.getElem?_toList]
    have e : (cur.toList.take (n * 1))[i]? = (xs.map (Value.int .u8))[i]? := by rw [ht]
    rw [List.getElem?_take_of_lt (by omega)] at e
    rw [e, List.getElem?_map, List.getD_eq_getElem?_getD, List.getElem?_eq_getElem (by omega)]
    rfl
theorem source_any (A : Option Addr) (n cap : Nat) (hn : n ≤ maxLen) (w : World) :
    Calls Try.prog 55 #[.slice A n cap] w fun e w' => e = .returned (.pointer (some ⟨w.heap.size, 0, none⟩)) ∧ w' = w.alloc (srcO A n cap 0 ((n % 1000 : Nat) : Int)) := by
  unfold maxLen at hn
  go_enter Try.func55, Try.ntmps55
  go_wp2
  go_ret
  exact ⟨rfl, by simp [srcO]⟩
theorem blob_any (N : Nat) (w : World) (p : Nat) (A : Option Addr) (n cap k : Nat) (s : Int) (hs : w.heap[p]? = some (srcO A n cap k s)) (hN : N ≤ 4096) (hn : n ≤ maxLen) (hk : k + N < 4611686018427387904) (s0 : 0 ≤ s) (s1 : s < 2147483648) (hc : codeIn w p A n) :
    Calls Try.prog 71 #[.pointer (some ⟨p, 0, none⟩), .int .i64 N] w fun e w' => ∃ (t : ByteArray) (s' : Int), e = .returned (.string t) ∧ t.size = N ∧ 0 ≤ s' ∧ s' < 2147483648 ∧ w'.heap[p]? = some (srcO A n cap ((k + N : Nat) : Int) s') ∧ w.grownBy w' (some p) := by
  obtain ⟨i0, hi0, hz0, hz1, hz2⟩ := info_parts info5
  have hp := (Array.getElem?_eq_some_iff.1 hs).1
  go_enter Try.func71, Try.ntmps71
  go_wp2
  go_loopw [5, 6] (fun o c wr => ∃ (j : Nat) (xs : List Int) (s' : Int), j ≤ N ∧ xs.length = j ∧ c = .int .i64 j ∧ 0 ≤ s' ∧ s' < 2147483648 ∧ wr.ownsRow w.heap.size 5 1 o j (xs.map (Value.int .u8)) ∧ wr.heap[p]? = some (srcO A n cap ((k + j : Nat) : Int) s') ∧ w.grownBy wr (some p)) (fun _ c _ => N - (intOf c).toNat)
  case atStart => exact ⟨0, [], s, Nat.zero_le _, rfl, rfl, s0, s1, World.ownsRow_made w #[] 0 (Nat.le_refl _) (Nat.zero_le _) rfl, by rw [Below.heap_alloc _ _ _ hp]; exact hs, grown_trans (World.grownBy.refl w _) (World.grownBy_alloc w _ none) (by simp)⟩
  case round =>
    obtain ⟨j, xs, s', hj, hx, rfl, s0', s1', hown, hsrc, hgr⟩ := hrel
    by_cases hlt : j < N
    · have hcl : ∀ i d', (srcW wr d' p A n cap i s').heap.size = wr.heap.size := fun _ _ => size_src _ _ _ _ _ _ _ _
      go_wp2_with fail
      refine (next_at 256 wr p A n cap (k + j) s' hsrc (by omega) (by omega) hn (by omega) s0' s1' (codeIn_grown hc hgr)).mono ?_
      rintro e w1 ⟨c, s2, d2, rfl, c0, c1, s20, s21, rfl⟩
      have ho2 := own_src (d := d2) (A := A) (n := n) (cap := cap) (a := ((k + j + 1 : Nat) : Int)) (s := s2) hown hp
      have hg2 := grown_src (d := d2) (A := A) (n := n) (cap := cap) (a := ((k + j + 1 : Nat) : Int)) (s := s2) hgr
      have hs2 := get_src wr d2 p A n cap ((k + j + 1 : Nat) : Int) s2 (Nat.lt_of_lt_of_le hp hgr.size)
      have hz : w.heap.size ≤ (srcW wr d2 p A n cap ((k + j + 1 : Nat) : Int) s2).heap.size := hg2.size
      generalize srcW wr d2 p A n cap ((k + j + 1 : Nat) : Int) s2 = w2 at *
      clear hown hgr hsrc hcl
      go_wp2_with (at_builtin; refine wpList_append_lies _ rfl _ _ 22 rfl w.heap.size 5 i0 (.int .u8 0) 1 1 Try.underlying22 hi0 hz0 hz1 hz2 rfl (by omega) u5 j (xs.map (Value.int .u8)) rfl (ho2.alloc _)
                    ⟨w2.heap.size, 0, none⟩ 1 1 [.int .u8 c] rfl rfl (World.news_of_block (cs := #[.int .u8 c]) (t := 5) (fr := (0, 0)) (heap_alloc_new w2 _)) (by simp [Value.oneCell'])
                    (by omega) (by unfold maxLen; omega) (by omega) (by simp; omega) (w2.heap.size + 1) (by simp) ?_; intro gg cp w3 hown3 hgrow3 hat hltg)
      go_wp2
      go_roundw
      case rel =>
        refine ⟨j + 1, xs ++ [c], s2, by omega, by simp [hx], by go_num, s20, s21, by rw [List.map_append]; exact hown3, ?_, ?_⟩
        · rw [hgrow3.block p (by simp; omega) (fun e => by have := (ho2.lt p e.symm).1; omega), Below.heap_alloc _ _ _ (by omega)]
          exact hs2
        · exact grown_trans (grown_trans hg2 (World.grownBy_alloc w2 _ none) (by simp)) hgrow3 fun k hk => (ho2.lt k hk).1
      case measure => simp [intOf]; omega
    · obtain rfl : j = N := by omega
      have hc := own_str hown hx
      go_wp2
      go_ret
      exact ⟨_, s', rfl, by rw [strOfNums_size]; exact hx, s0', s1', hsrc, hgr⟩
/-- the bytes that a slice leads to lie in w -/
def codeAt (w : World) (A : Option Addr) (n : Nat) : Prop := 0 < n → ∃ b off, A = some ⟨b, off, none⟩ ∧ ∀ i, i < n → ∃ c : Int, 0 ≤ c ∧ c < 256 ∧ w.cell? ⟨b, off + i, none⟩ = some (.int .u8 c)
theorem codeAt_below {w w' : World} {A : Option Addr} {n : Nat} (h : codeAt w A n) (hb : Below w.heap.size w w') : codeAt w' A n := fun hn => by
  obtain ⟨b, off, hA, hcell⟩ := h hn
  refine ⟨b, off, hA, fun i hi => ?_⟩
  obtain ⟨c, c0, c1, hc⟩ := hcell i hi
  exact ⟨c, c0, c1, by rw [hb.cell (World.block_lt_of_cell? w _ hc)]; exact hc⟩
theorem codeIn_alloc {w : World} {A : Option Addr} {n : Nat} (h : codeAt w A n) (o : Obj) : codeIn (w.alloc o) w.heap.size A n := fun hn => by
  obtain ⟨b, off, hA, hcell⟩ := h hn
  obtain ⟨_, _, _, h0⟩ := hcell 0 hn
  have hlt : b < w.heap.size := World.block_lt_of_cell? w _ h0
  refine ⟨b, off, hA, by omega, fun i hi => ?_⟩
  obtain ⟨c, c0, c1, hc⟩ := hcell i hi
  exact ⟨c, c0, c1, by rw [((Below.refl w.heap.size w).alloc (Nat.le_refl _) o).cell hlt]; exact hc⟩
theorem blobOf_any (N : Nat) (A : Option Addr) (n cap : Nat) (w : World) (hN : N ≤ 4096) (hn : n ≤ maxLen) (hc : codeAt w A n) :
    Calls Try.prog 34 #[.slice A n cap, .int .i64 N] w fun e w' => ∃ t : ByteArray, e = .returned (.string t) ∧ t.size = N ∧ Below w.heap.size w w' := by
  go_enter Try.func34, Try.ntmps34
  go_wp2_with fail
  refine (source_any A n cap hn w).mono ?_
  rintro e w1 ⟨rfl, rfl⟩
  go_wp2_with fail
  refine (blob_any N _ w.heap.size A n cap 0 _ (heap_alloc_new w _) hN hn (by omega) (by omega) (by omega) (codeIn_alloc hc _)).mono ?_
  rintro e w2 ⟨t, s', rfl, ht, s0, s1, hs, hg⟩
  go_wp2
  go_ret
  exact ⟨t, rfl, ht, Below.grown ((Below.refl _ w).alloc (Nat.le_refl _) _) hg (by simp) (by simp)⟩
end Go.Proofs.Ytecphhfdleaklaa
/- What an argument of bytes, read, gives the walks: where its bytes lie. -/
namespace Go.Proofs.Ytecphhfdleaklaa
open Go.ChangeShapes Go.WideShapes Go.ChangeAt Go.RowKit
theorem cells5 : Try.prog.cellsOf 5 = 1 := by kernel_rfl
theorem wf_u8_bd {n : Int} (h : (Lit.int .u8 n).wf = true) : 0 ≤ n ∧ n < 256 := by
  simp [Lit.wf, IntKind.min, IntKind.max, IntKind.bits, IntKind.signed] at h
  omega
theorem code_of_trod {H : Type} {enc : TypeId × Value → H} {W : World} {A : Option Addr} {n cap : Nat} {d : DataW H} {ps : List MemPlace}
    (h : DataW.Trod enc Try.prog W 0 (fun _ => true) true 22 (.slice A n cap) d ps) : n ≤ maxLen ∧ codeAt W A n := by
  obtain ⟨fuel, hf⟩ := h
  rcases open_ints Try.underlying22 Try.underlying5 cells5 hf with ⟨hcs, hx⟩ | ⟨a, len', cap', zs, hcs, _, hl, hm, hz, hx, hcell, hwz⟩
  · simp [Value.cells] at hcs
    obtain ⟨rfl, rfl, rfl⟩ := hcs
    exact ⟨Nat.zero_le _, fun h => absurd h (Nat.lt_irrefl _)⟩
  · simp [Value.cells] at hcs
    obtain ⟨rfl, rfl, rfl⟩ := hcs
    simp only [if_true] at hz
    refine ⟨Nat.le_trans hl hm, fun h0 => ?_⟩
    obtain ⟨b, off, rfl, hc⟩ := ints_at hcell (by omega)
    refine ⟨b, off, rfl, fun i hi => ?_⟩
    have hi' : i < zs.length := by omega
    have hb := wf_u8_bd (hwz (zs.getD i 0) (by rw [List.getD_eq_getElem?_getD, List.getElem?_eq_getElem hi']; exact List.getElem_mem hi'))
    exact ⟨zs.getD i 0, hb.1, hb.2, hc i hi'⟩
end Go.Proofs.Ytecphhfdleaklaa
/- The law of two who share one secret, walked. -/
namespace Go.Proofs.Ytecphhfdleaklaa
open Go.RowKit
set_option maxHeartbeats 4000000
set_option maxRecDepth 20000
theorem pp_eq : (PP : Int) = pInt := rfl
theorem mult_low (k u : ByteArray) : lowN (multB k u) = up (lowN u) (numN (clampB k)) % pInt := by
  have h := mult_num k u
  have h1 : up (lowN u) (numN (clampB k)) % pInt < pInt := Int.emod_lt_of_pos _ (by unfold pInt; decide)
  have h0 : 0 ≤ up (lowN u) (numN (clampB k)) % pInt := Int.emod_nonneg _ (by unfold pInt; decide)
  rw [h] at h0 h1 ⊢
  unfold pInt at h1
  exact Int.emod_eq_of_lt h0 (by omega)
theorem mult_cs (k u : ByteArray) : cs (lowN (multB k u)) = cs (up (lowN u) (numN (clampB k))) := by
  rw [cs_eq, mult_low, pp_eq, Int.emod_emod_of_dvd _ (Int.dvd_refl _)]
theorem shared_texts (a b : ByteArray) (ha : a.size = 32) (hb : b.size = 32) : multB a (multB b nineB) = multB b (multB a nineB) ∧ numN (multB a (multB b nineB)) ≠ 0 := by
  have hp : cs (lowN (multB a nineB)) = cs (up 9 (numN (clampB a))) := by rw [mult_cs, nine_num]
  have hq : cs (lowN (multB b nineB)) = cs (up 9 (numN (clampB b))) := by rw [mult_cs, nine_num]
  obtain ⟨h1, h2⟩ := shared_one (clamp_clamped a ha) (clamp_clamped b hb) hp hq
  rw [pp_eq] at h1 h2
  refine ⟨by unfold multB at h1 ⊢; rw [h1], fun h => h2 ?_⟩
  have := mult_num a (multB b nineB)
  rw [h] at this
  exact this
theorem and_and8 (x : Nat) : (x &&& 248) &&& 248 = x &&& 248 := by rw [Nat.and_assoc]; rfl
theorem or_and8 (x : Nat) : (((x &&& 127) ||| 64) &&& 127) ||| 64 = (x &&& 127) ||| 64 := by
  apply Nat.eq_of_testBit_eq
  intro i
  simp only [Nat.testBit_or, Nat.testBit_and]
  cases x.testBit i <;> cases Nat.testBit 127 i <;> cases Nat.testBit 64 i <;> rfl
theorem clampL_twice (xs : List Int) (h : ∀ i, 0 ≤ xs.getD i 0 ∧ xs.getD i 0 < 256) (hl : xs.length = 32) : clampL (clampL xs) = clampL xs := by
  have l1 := clampL_len xs
  have e0 : (clampL xs).getD 0 0 = bits .and .u8 (xs.getD 0 0) 248 := by unfold clampL; simp [List.getD, hl]
  have e31 : (clampL xs).getD 31 0 = bits .or .u8 (bits .and .u8 (xs.getD 31 0) 127) 64 := by unfold clampL; simp [List.getD, hl]
  have c0 := h 0
  have c31 := h 31
  have f0 : bits .and .u8 (bits .and .u8 (xs.getD 0 0) 248) 248 = bits .and .u8 (xs.getD 0 0) 248 := by
    rw [u8_and _ 248 c0.1 c0.2 (by decide) (by decide)]
    rw [show (248 : Int) = ((248 : Nat) : Int) from rfl, u8_and_nat _ _ (Nat.lt_of_le_of_lt Nat.and_le_right (by decide)) (by decide)]
    exact congrArg _ (and_and8 _)
  have f31 : bits .or .u8 (bits .and .u8 (bits .or .u8 (bits .and .u8 (xs.getD 31 0) 127) 64) 127) 64 = bits .or .u8 (bits .and .u8 (xs.getD 31 0) 127) 64 := by
    have hlt : (xs.getD 31 0).toNat &&& 127 < 256 := Nat.lt_of_le_of_lt Nat.and_le_right (by decide)
    have g1 : bits .or .u8 (bits .and .u8 (xs.getD 31 0) 127) 64 = ((((xs.getD 31 0).toNat &&& 127) ||| 64 : Nat) : Int) := by
      rw [u8_and _ 127 c31.1 c31.2 (by decide) (by decide), show (64 : Int) = ((64 : Nat) : Int) from rfl]
      exact u8_or_nat _ _ hlt (by decide)
    have hlt2 : ((xs.getD 31 0).toNat &&& 127) ||| 64 < 256 := Nat.or_lt_two_pow (n := 8) hlt (by decide)
    rw [g1, show (127 : Int) = ((127 : Nat) : Int) from rfl, u8_and_nat _ _ hlt2 (by decide), show (64 : Int) = ((64 : Nat) : Int) from rfl, u8_or_nat _ _ (Nat.lt_of_le_of_lt Nat.and_le_right (by decide)) (by decide)]
    exact congrArg _ (or_and8 _)
  show ((clampL xs).set 0 (bits .and .u8 ((clampL xs).getD 0 0) 248)).set 31 (bits .or .u8 (bits .and .u8 ((clampL xs).getD 31 0) 127) 64) = clampL xs
  rw [e0, e31, f0, f31]
  apply List.ext_getElem?
  intro i
  unfold clampL
  rw [List.getElem?_set, List.getElem?_set, List.getElem?_set, List.getElem?_set]
  simp only [List.length_set]
  by_cases h1 : 31 = i <;> by_cases h2 : 0 = i <;> simp_all
theorem byteI_nums (xs : List Int) (h : ∀ i, 0 ≤ xs.getD i 0 ∧ xs.getD i 0 < 256) : byteI (strOfNums xs) = xs := by
  unfold byteI
  rw [strOfNums_data, List.map_map]
  apply List.ext_getElem?
  intro i
  have hi := h i
  rw [List.getElem?_map]
  rw [List.getD_eq_getElem?_getD] at hi
  cases e : xs[i]? with
  | none => rfl
  | some x =>
    rw [e] at hi
    simp only [Option.getD_some] at hi
    simp only [Option.map_some, Function.comp_apply, UInt8.toNat_ofNat']
    congr 1
    omega
theorem clampL_bd (s : ByteArray) (hs : s.size = 32) (i : Nat) : 0 ≤ (clampL (byteI s)).getD i 0 ∧ (clampL (byteI s)).getD i 0 < 256 := by
  have hb := byteI_bd s i
  have hl : (byteI s).length = 32 := (byteI_len s).trans hs
  by_cases h0 : i = 0
  · subst h0
    have : (clampL (byteI s)).getD 0 0 = bits .and .u8 ((byteI s).getD 0 0) 248 := by unfold clampL; simp [List.getD, hl]
    rw [this]
    exact ⟨bits_lo_u8 _ _ _, by have := bits_hi_u8 .and ((byteI s).getD 0 0) 248; omega⟩
  · by_cases h31 : i = 31
    · subst h31
      have : (clampL (byteI s)).getD 31 0 = bits .or .u8 (bits .and .u8 ((byteI s).getD 31 0) 127) 64 := by unfold clampL; simp [List.getD, hl]
      rw [this]
      exact ⟨bits_lo_u8 _ _ _, by have := bits_hi_u8 .or (bits .and .u8 ((byteI s).getD 31 0) 127) 64; omega⟩
    · have : (clampL (byteI s)).getD i 0 = (byteI s).getD i 0 := by
        unfold clampL
        rw [List.getD_eq_getElem?_getD, List.getElem?_set_ne (by omega), List.getElem?_set_ne (by omega), ← List.getD_eq_getElem?_getD]
      rw [this]; exact hb
theorem clampB_twice (s : ByteArray) (hs : s.size = 32) : clampB (clampB s) = clampB s := by
  unfold clampB
  rw [byteI_nums _ (clampL_bd s hs), clampL_twice _ (byteI_bd s) ((byteI_len s).trans hs)]
theorem pub_twice (s : ByteArray) (hs : s.size = 32) : multB (clampB s) nineB = multB s nineB := by
  unfold multB; rw [clampB_twice s hs]
theorem pubV_32 (s : ByteArray) (hs : s.size = 32) : PubV s = .tuple #[.string (multB s nineB), .int .i64 0] := by
  rw [PubV, if_neg (by omega), if_pos hs]
theorem secV_32 (a b : ByteArray) (ha : a.size = 32) (hb : b.size = 32) (h : numN (multB a b) ≠ 0) : SecV a b = .tuple #[.string (multB a b), .int .i64 0] := by
  rw [SecV, long_f (by omega), long_f (by omega), if_neg (by simp), if_pos ⟨ha, hb⟩, if_neg h]
theorem clampV_32 (s : ByteArray) (hs : s.size = 32) : ClampV s = .tuple #[.string (clampB s), .int .i64 0] := by
  rw [ClampV, if_neg (by omega), if_pos hs]
theorem law_Shared (w : World) (A : Option Addr) (n cap : Nat) (hn : n ≤ maxLen) (hA : codeAt w A n) (B : Option Addr) (m cbp : Nat) (hm : m ≤ maxLen) (hB : codeAt w B m) :
    Calls Try.prog 5 #[.slice A n cap, .slice B m cbp] w fun e w' => e = .returned (.bool true) ∧ Below w.heap.size w w' := by
  have hn' := hn
  have hm' := hm
  unfold maxLen at hn' hm'
  by_cases h1 : n ≤ 1048576
  · by_cases h2 : m ≤ 1048576
    · have HA := hide hA
      have HB := hide hB
      have Hn := hide hn
      have Hm := hide hm
      clear hA hB hn hm
      go_enter Try.func5, Try.ntmps5
      go_wp2_with fail
      refine (blobOf_any 32 A n cap _ (by omega) (unhide Hn) (unhide HA)).mono ?_
      rintro e w1 ⟨a, rfl, ha, hb1⟩
      have b1 := hide hb1
      have HB1 := hide (codeAt_below (unhide HB) hb1)
      clear hb1 HB HA
      go_wp2_with fail
      refine (blobOf_any 32 B m cbp _ (by omega) (unhide Hm) (unhide HB1)).mono ?_
      rintro e w2 ⟨b, rfl, hb, hb2⟩
      have b2 := hide ((unhide b1).trans (hb2.mono (unhide b1).size))
      clear hb2 HB1 b1
      have P := hide (pubV_32 a ha)
      have Q := hide (pubV_32 b hb)
      have sq := mult_size b nineB
      have sp := mult_size a nineB
      obtain ⟨e1, e2⟩ := shared_texts a b ha hb
      have X := hide (secV_32 a _ ha sq e2)
      have Y := hide (secV_32 b _ hb sp (by rw [← e1]; exact e2))
      have C := hide (clampV_32 a ha)
      have K := hide (pubV_32 (clampB a) ((clampB_size a).trans ha))
      have E := hide e1
      have T := hide (pub_twice a ha)
      clear e1 e2 sq sp ha hb
      go_wp2_with fail
      refine (impl_Pub a _).mono ?_
      rintro e w3 ⟨rfl, hb3⟩
      rw [unhide P]
      have b3 := hide ((unhide b2).trans (hb3.mono (unhide b2).size))
      clear hb3 b2
      go_wp2_with fail
      refine (impl_Pub b _).mono ?_
      rintro e w4 ⟨rfl, hb4⟩
      rw [unhide Q]
      have b4 := hide ((unhide b3).trans (hb4.mono (unhide b3).size))
      clear hb4 b3
      go_wp2_with fail
      refine (spec_Pub a _).mono ?_
      rintro e w5 ⟨rfl, hb5⟩
      rw [unhide P]
      have b5 := hide ((unhide b4).trans (hb5.mono (unhide b4).size))
      clear hb5 b4
      go_wp2_with fail
      refine (impl_Sec a (multB b nineB) _).mono ?_
      rintro e w6 ⟨rfl, hb6⟩
      rw [unhide X]
      have b6 := hide ((unhide b5).trans (hb6.mono (unhide b5).size))
      clear hb6 b5
      go_wp2_with fail
      refine (impl_Sec b (multB a nineB) _).mono ?_
      rintro e w7 ⟨rfl, hb7⟩
      rw [unhide Y, ← unhide E]
      have b7 := hide ((unhide b6).trans (hb7.mono (unhide b6).size))
      clear hb7 b6
      go_wp2_with fail
      refine (impl_Clamp a _).mono ?_
      rintro e w8 ⟨rfl, hb8⟩
      rw [unhide C]
      have b8 := hide ((unhide b7).trans (hb8.mono (unhide b7).size))
      clear hb8 b7
      go_wp2_with fail
      refine (impl_Pub (clampB a) _).mono ?_
      rintro e w9 ⟨rfl, hb9⟩
      rw [unhide K, unhide T]
      have b9 := hide ((unhide b8).trans (hb9.mono (unhide b8).size))
      clear hb9 b8
      go_wp2
      go_ret
      exact ⟨rfl, unhide b9⟩
    · go_enter Try.func5, Try.ntmps5
      go_wp2
      go_ret
      exact ⟨rfl, Below.refl _ _⟩
  · go_enter Try.func5, Try.ntmps5
    go_wp2
    go_ret
    exact ⟨rfl, Below.refl _ _⟩
end Go.Proofs.Ytecphhfdleaklaa
/- The law that doubling and going up may be exchanged, walked. -/
namespace Go.Proofs.Ytecphhfdleaklaa
open Go.RowKit
set_option maxHeartbeats 4000000
set_option maxRecDepth 20000
/-- what any number is modulo the prime, as a text -/
theorem mod_nat (v : Int) : ∃ n : Nat, v % pInt = (n : Int) ∧ n < pN := by
  have h0 : 0 ≤ v % pInt := Int.emod_nonneg _ (by unfold pInt; decide)
  have h1 : v % pInt < pInt := Int.emod_lt_of_pos _ (by unfold pInt; decide)
  exact ⟨(v % pInt).toNat, by omega, by unfold pN; unfold pInt at h0 h1 ⊢; omega⟩
theorem enc_mod_num (v : Int) : (numN (enc (v % pInt)) : Int) = v % pInt := by
  obtain ⟨n, e, hn⟩ := mod_nat v
  rw [e, numN_enc n (by unfold pN at hn; omega)]
theorem enc_mod_size (v : Int) : (enc (v % pInt)).size = 32 := by
  obtain ⟨n, e, _⟩ := mod_nat v
  rw [e, enc_size]
theorem enc_mod_ok (v : Int) : okB (enc (v % pInt)) = true := by
  obtain ⟨n, e, hn⟩ := mod_nat v
  unfold okB
  rw [decide_eq_true_iff, e, numN_enc n (by unfold pN at hn; omega)]
  exact ⟨enc_size n, hn⟩
theorem enc_mod_low (v : Int) : lowN (enc (v % pInt)) = v % pInt := by
  have h := enc_mod_num v
  have h1 : v % pInt < pInt := Int.emod_lt_of_pos _ (by unfold pInt; decide)
  have h0 : 0 ≤ v % pInt := Int.emod_nonneg _ (by unfold pInt; decide)
  unfold lowN
  rw [h]
  unfold pInt at h0 h1 ⊢
  exact Int.emod_eq_of_lt h0 (by omega)
theorem cs_mod (v : Int) : cs (v % pInt) = cs v := by
  rw [cs_eq, pp_eq, Int.emod_emod_of_dvd _ (Int.dvd_refl _)]
theorem dbl_eq (u : Int) : dblN u = dblM u := rfl
theorem double_texts (k m : ByteArray) (hk : k.size = 32) (hm : m.size = 32) : multB k (enc (dblN (numN (multB m nineB)) % pInt)) = enc (dblN (numN (multB k (multB m nineB))) % pInt) := by
  have e1 : ((numN (multB m nineB) : Nat) : Int) = lowN (multB m nineB) := by rw [mult_low, mult_num]
  have e2 : ((numN (multB k (multB m nineB)) : Nat) : Int) = lowN (multB k (multB m nineB)) := by rw [mult_low, mult_num]
  have hu : cs (lowN (multB m nineB)) = cs (up 9 (numN (clampB m))) := by rw [mult_cs, nine_num]
  have hv : cs (lowN (enc (dblN (lowN (multB m nineB)) % pInt))) = cs (dblM (lowN (multB m nineB))) := by rw [enc_mod_low, cs_mod, dbl_eq]
  have hx : cs (lowN (multB k (multB m nineB))) = cs (up (lowN (multB m nineB)) (numN (clampB k))) := mult_cs _ _
  have h := double_one (clamp_clamped k hk) (clamp_clamped m hm) hu hv hx
  rw [e1, e2]
  rw [pp_eq] at h
  rw [dbl_eq (lowN (multB k (multB m nineB))), ← h]
  rfl
theorem dblV_ok (s : ByteArray) (hs : s.size = 32) (ho : okB s = true) : DblV s = .tuple #[.string (enc (dblN (numN s) % pInt)), .int .i64 0] := by
  rw [DblV, long_f (by omega), if_neg (by simp), if_pos ho]
theorem multV_32 (a b : ByteArray) (ha : a.size = 32) (hb : b.size = 32) : MultV a b = .tuple #[.string (multB a b), .int .i64 0] := by
  rw [MultV, long_f (by omega), long_f (by omega), if_neg (by simp), if_pos ⟨ha, hb⟩]
theorem law_Double (w : World) (A : Option Addr) (n cap : Nat) (hn : n ≤ maxLen) (hA : codeAt w A n) (B : Option Addr) (m cbp : Nat) (hm : m ≤ maxLen) (hB : codeAt w B m) :
    Calls Try.prog 6 #[.slice A n cap, .slice B m cbp] w fun e w' => e = .returned (.bool true) ∧ Below w.heap.size w w' := by
  have hn' := hn
  have hm' := hm
  unfold maxLen at hn' hm'
  by_cases h1 : n ≤ 1048576
  · by_cases h2 : m ≤ 1048576
    · have HA := hide hA
      have HB := hide hB
      have Hn := hide hn
      have Hm := hide hm
      clear hA hB hn hm
      go_enter Try.func6, Try.ntmps6
      go_wp2_with fail
      refine (blobOf_any 32 A n cap _ (by omega) (unhide Hn) (unhide HA)).mono ?_
      rintro e w1 ⟨a, rfl, ha, hb1⟩
      have b1 := hide hb1
      have HB1 := hide (codeAt_below (unhide HB) hb1)
      clear hb1 HB HA
      go_wp2_with fail
      refine (blobOf_any 32 B m cbp _ (by omega) (unhide Hm) (unhide HB1)).mono ?_
      rintro e w2 ⟨b, rfl, hb, hb2⟩
      have b2 := hide ((unhide b1).trans (hb2.mono (unhide b1).size))
      clear hb2 HB1 b1
      have P := hide (pubV_32 b hb)
      have su := mult_size b nineB
      have D := hide (dblV_ok (multB b nineB) su (enc_mod_ok _))
      have D0 := hide (show (multB b nineB).size ≤ maxLen by rw [su]; unfold maxLen; omega)
      have M := hide (multV_32 a (enc (dblN (numN (multB b nineB)) % pInt)) ha (enc_mod_size _))
      have U := hide (multV_32 a (multB b nineB) ha su)
      have R := hide (dblV_ok (multB a (multB b nineB)) (mult_size _ _) (enc_mod_ok _))
      have E := hide (double_texts a b ha hb)
      clear ha hb su
      go_wp2_with fail
      refine (spec_Pub b _).mono ?_
      rintro e w3 ⟨rfl, hb3⟩
      rw [unhide P]
      have b3 := hide ((unhide b2).trans (hb3.mono (unhide b2).size))
      clear hb3 b2
      go_wp2_with fail
      refine (impl_Dbl (multB b nineB) _).mono ?_
      rintro e w4 ⟨rfl, hb4⟩
      rw [unhide D]
      have b4 := hide ((unhide b3).trans (hb4.mono (unhide b3).size))
      clear hb4 b3
      go_wp2_with fail
      refine (spec_Dbl (multB b nineB) (unhide D0) _).mono ?_
      rintro e w5 ⟨rfl, hb5⟩
      rw [unhide D]
      have b5 := hide ((unhide b4).trans (hb5.mono (unhide b4).size))
      clear hb5 b4
      go_wp2_with fail
      refine (impl_Mult a (enc (dblN (numN (multB b nineB)) % pInt)) _).mono ?_
      rintro e w6 ⟨rfl, hb6⟩
      rw [unhide M, unhide E]
      have b6 := hide ((unhide b5).trans (hb6.mono (unhide b5).size))
      clear hb6 b5
      go_wp2_with fail
      refine (impl_Mult a (multB b nineB) _).mono ?_
      rintro e w7 ⟨rfl, hb7⟩
      rw [unhide U]
      have b7 := hide ((unhide b6).trans (hb7.mono (unhide b6).size))
      clear hb7 b6
      go_wp2_with fail
      refine (impl_Dbl (multB a (multB b nineB)) _).mono ?_
      rintro e w8 ⟨rfl, hb8⟩
      rw [unhide R]
      have b8 := hide ((unhide b7).trans (hb8.mono (unhide b7).size))
      clear hb8 b7
      go_wp2
      go_ret
      exact ⟨rfl, unhide b8⟩
    · go_enter Try.func6, Try.ntmps6
      go_wp2
      go_ret
      exact ⟨rfl, Below.refl _ _⟩
  · go_enter Try.func6, Try.ntmps6
    go_wp2
    go_ret
    exact ⟨rfl, Below.refl _ _⟩
end Go.Proofs.Ytecphhfdleaklaa
/- For every argument the law returns true, and each argument reads behind the call as it read before; no condition. -/
namespace Go.Proofs.Ytecphhfdleaklaa
open Go.ChangeShapes Go.WideShapes Go.ChangeAt Go.RowKit
open Go.ChangeMaps (open_string shut_string)
set_option linter.unusedVariables false
theorem double_holds_own : ownKnob Try.prog.godebug = none := by kernel_rfl
theorem double_holds_laid : laidOutB Try.prog = true := by kernel_rfl
set_option maxRecDepth 100000 in
theorem double_holds_lifted (os : Os) (started : os.Started) (H : Type) (enc : TypeId × Value → H) :
    ReturnsInHanded {} Try.checked os 6 .any (Rows.fnDoubleSpec.pre6 enc Try.prog Try.f6 Rows.fnDoubleRow.domain false) (Rows.fnDoubleSpec.post enc Try.prog Try.f6 false true false false) := by
  refine returnsInHanded_of_change (C := Try.checked) double_holds_own started (by kernel_rfl) Try.func6
    (ChangeSpec.witness6 (enc := enc) (C := Try.checked) false ⟨#[], #[.slice none 0 0, .slice none 0 0], []⟩ 8 (by kernel_rfl) (by kernel_rfl) (by kernel_rfl) (by kernel_rfl)) ?_
  intro W base args ds gs before hval0 hW hcnd _
  have hval : ∀ (j : Nat) t v, Try.f6.params[j]? = some t → args[j]? = some v → Value.okWide Try.prog W .any base t v := hval0
  have hW' := hW
  obtain ⟨p, q, hA0, hV, rfl, hfz, hnd⟩ := hW
  have hA : DataW.TrodAll enc Try.prog W 0 (fun _ => true) true Try.f6.params.toList args.toList ds p := hA0
  rw [Try.params6] at hA hval
  obtain ⟨v0, vs0, d0, ds0, p0, q0, hargs, rfl, rfl, h0, r0⟩ := trodAll_cons hA
  obtain ⟨v1, vs1, d1, ds1, p1, q1, rfl, rfl, rfl, h1, r1⟩ := trodAll_cons r0
  obtain ⟨rfl, rfl, rfl⟩ := trodAll_nil r1
  obtain rfl : args = #[v0, v1] := by cases args; simp_all
  obtain ⟨rfl, rfl⟩ := trodVars_none hV
  have k0 := h0
  obtain ⟨A0, n0, c0, rfl⟩ := okWide_slice Try.underlying22 (hval 0 22 v0 rfl rfl)
  have g0 : n0 ≤ maxLen ∧ codeAt W A0 n0 := code_of_trod h0
  have k1 := h1
  obtain ⟨A1, n1, c1, rfl⟩ := okWide_slice Try.underlying22 (hval 1 22 v1 rfl rfl)
  have g1 : n1 ≤ maxLen ∧ codeAt W A1 n1 := code_of_trod h1
  clear hA0 hval0
  simp only [List.append_nil] at hW'
  have l0 : ∀ x ∈ p0, x.block < W.heap.size := fun x hx => by simpa using hW'.lt x (by simp [hx])
  have l1 : ∀ x ∈ p1, x.block < W.heap.size := fun x hx => by simpa using hW'.lt x (by simp [hx])
  refine (law_Double W A0 n0 c0 g0.1 g0.2 A1 n1 c1 g1.1 g1.2).mono fun e W' ⟨he, hb⟩ => ?_
  subst he
  exact ⟨_, rfl, _, _, _, [], _, [], hW', trodAll_mk1 (shut_bool Try.underlying4 _), (trodAll_cons_mk (Below.trod double_holds_laid (by kernel_rfl) (of_decide_eq_true (by kernel_rfl)) k0 hb l0) (trodAll_cons_mk (Below.trod double_holds_laid (by kernel_rfl) (of_decide_eq_true (by kernel_rfl)) k1 hb l1) trodAll_mk0)), rfl, hb.frame _, fun h => by cases h⟩
theorem double_holds_closed : joinedFacts Try.prog 6 Try.f6 Rows.fnDoubleSpec Rows.fnDoubleRow = true := by
  unfold joinedFacts
  simp only [Bool.and_eq_true]
  repeat' apply And.intro
  iterate 25 (as_aux_lemma => kernel_rfl)
  · exact head_enter
  · rw [head_final]; kernel_rfl
  · rw [head_make]; kernel_rfl
  all_goals (as_aux_lemma => kernel_rfl)
theorem double_holds : Rows.FnDoubleSaid :=
  OpenClaim.holds_of_wide 6 Try.f6 rfl rfl rfl rfl rfl rfl rfl ⟨rfl, rfl, rfl, rfl, rfl⟩ rfl rfl rfl rfl rfl (by kernel_rfl) Try.func6 double_holds_closed
    (of_decide_eq_true (by kernel_rfl)) (by unfold Func.isWrapper; first | (rw [if_pos (by decide +kernel)]; kernel_rfl) | (rw [if_neg (by decide +kernel)]; exact ⟨rfl, rfl⟩))
    (fun os started H enc _ => double_holds_lifted os started H enc)
#print axioms double_holds
end Go.Proofs.Ytecphhfdleaklaa
