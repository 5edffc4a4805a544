/- What clamping leaves of a scalar, as a number. -/
import Derived.Test.YtncplefjokbbjaaRows
import Derived.WalkKit
import Derived.WalkSpells
import Derived.WalkLawsBesides
import Derived.Handy
import Derived.Outline
import Derived.Laws.AppendOwn
import Derived.Deep.AppendLies
import Derived.OwnWalk
import Derived.Deep.QuietTactic
import Derived.BigQuiet
import Derived.BigRegion
import Derived.Deep.RegionHeld3
import Derived.ProofKit
import Derived.OpenShut
import Derived.Test.YtncplefjokbbjaaLad
import Derived.Test.YtncplefjokbbjaaClamp
/- The source of choices: its block in memory; a byte, a number, a text drawn of it. -/
namespace Go.Proofs.Ytncplefjokbbjaa
open Go.RowKit
set_option maxHeartbeats 1600000
set_option maxRecDepth 100000
abbrev srcO (A : Option Addr) (n cap : Nat) (a s : Int) : Obj := .cells #[.slice A n cap, .int .i64 a, .int .i64 s] 61
/-- a world in which block p holds a source -/
def srcW (w : World) (d p : Nat) (A : Option Addr) (n cap : Nat) (a s : Int) : World := { w with heap := w.heap.setIfInBounds p (srcO A n cap a s), drawn := d }
section
variable (w : World) (d p : Nat) (A : Option Addr) (n cap : Nat) (a s : Int)
theorem get_src (hp : p < w.heap.size) : (srcW w d p A n cap a s).heap[p]? = some (srcO A n cap a s) := by simp [srcW, hp]
theorem get_src_other (k : Nat) (h : k ≠ p) : (srcW w d p A n cap a s).heap[k]? = w.heap[k]? := by
  simp only [srcW]; rw [Array.getElem?_setIfInBounds_ne (by omega)]
@[go_sem] theorem size_src : (srcW w d p A n cap a s).heap.size = w.heap.size := by simp [srcW]
@[go_sem] theorem drew_src : (srcW w d p A n cap a s).drew = srcW w (d + 1) p A n cap a s := rfl
theorem drewN_src (k : Nat) : (srcW w d p A n cap a s).drewN k = srcW w (d + k) p A n cap a s := rfl
@[go_sem] theorem cell_src0 (hp : p < w.heap.size) : (srcW w d p A n cap a s).cell? ⟨p, 0, none⟩ = some (.slice A n cap) := by
  unfold World.cell?; rw [show (⟨p, 0, none⟩ : Addr).block = p from rfl, get_src w d p A n cap a s hp]; rfl
@[go_sem] theorem cell_src1 (hp : p < w.heap.size) : (srcW w d p A n cap a s).cell? ⟨p, 1, none⟩ = some (.int .i64 a) := by
  unfold World.cell?; rw [show (⟨p, 1, none⟩ : Addr).block = p from rfl, get_src w d p A n cap a s hp]; rfl
@[go_sem] theorem cell_src2 (hp : p < w.heap.size) : (srcW w d p A n cap a s).cell? ⟨p, 2, none⟩ = some (.int .i64 s) := by
  unfold World.cell?; rw [show (⟨p, 2, none⟩ : Addr).block = p from rfl, get_src w d p A n cap a s hp]; rfl
@[go_sem] theorem frozen_src (i : Nat) (hp : p < w.heap.size) : (srcW w d p A n cap a s).frozen? ⟨p, i, none⟩ = false := by
  unfold World.frozen?; rw [show (⟨p, i, none⟩ : Addr).block = p from rfl, get_src w d p A n cap a s hp]; simp
@[go_sem] theorem cell_src_other (k i : Nat) (h : k ≠ p) : (srcW w d p A n cap a s).cell? ⟨k, i, none⟩ = w.cell? ⟨k, i, none⟩ := by
  unfold World.cell?; rw [show (⟨k, i, none⟩ : Addr).block = k from rfl, get_src_other w d p A n cap a s k h]
@[go_sem] theorem set_src1 (x : Int) (hp : p < w.heap.size) : (srcW w d p A n cap a s).setCell ⟨p, 1, none⟩ (.int .i64 x) = srcW w d p A n cap x s := by
  unfold World.setCell srcW
  simp only [World.mk.injEq, and_self, and_true]
  apply Array.ext_getElem?
  intro k
  rw [Array.getElem?_modify, Array.getElem?_setIfInBounds, Array.getElem?_setIfInBounds]
  by_cases hk : p = k
  · subst hk; simp [hp]
  · rw [if_neg hk, if_neg hk, if_neg hk]
@[go_sem] theorem set_src2 (x : Int) (hp : p < w.heap.size) : (srcW w d p A n cap a s).setCell ⟨p, 2, none⟩ (.int .i64 x) = srcW w d p A n cap a x := by
  unfold World.setCell srcW
  simp only [World.mk.injEq, and_self, and_true]
  apply Array.ext_getElem?
  intro k
  rw [Array.getElem?_modify, Array.getElem?_setIfInBounds, Array.getElem?_setIfInBounds]
  by_cases hk : p = k
  · subst hk; simp [hp]
  · rw [if_neg hk, if_neg hk, if_neg hk]
theorem src_same (hp : w.heap[p]? = some (srcO A n cap a s)) : srcW w w.drawn p A n cap a s = w := by
  obtain ⟨hh, tp, dr, o, out⟩ := w
  simp only [srcW, World.mk.injEq, and_self, and_true] at *
  apply Array.ext_getElem?
  intro k
  rw [Array.getElem?_setIfInBounds]
  by_cases hk : p = k
  · subst hk
    rw [hp]
    have := (Array.getElem?_eq_some_iff.1 hp).1
    simp [this]
  · rw [if_neg hk]
theorem src_src (w : World) (d d' : Nat) (a' s' : Int) : srcW (srcW w d p A n cap a s) d' p A n cap a' s' = srcW w d' p A n cap a' s' := by simp [srcW]
theorem below_src {B : Nat} {X : World} (h : Below B X w) (hB : B ≤ p) : Below B X (srcW w d p A n cap a s) :=
  ⟨h.os, h.tape, h.output, by rw [size_src]; exact h.size, fun k hk => by rw [get_src_other _ _ _ _ _ _ _ _ _ (by omega)]; exact h.block k hk⟩
end
/-- the bytes that a slice leads to lie in w, none of them in block p -/
def codeIn (w : World) (p : Nat) (A : Option Addr) (n : Nat) : Prop := 0 < n → ∃ b off, A = some ⟨b, off, none⟩ ∧ b ≠ p ∧ ∀ i, i < n → ∃ c : Int, 0 ≤ c ∧ c < 256 ∧ w.cell? ⟨b, off + i, none⟩ = some (.int .u8 c)
theorem byte_any (w : World) (d p : Nat) (A : Option Addr) (n cap k : Nat) (s : Int) (hp : p < w.heap.size) (hn : n ≤ maxLen) (hk : k < 4611686018427387904) (s0 : 0 ≤ s) (s1 : s < 2147483648) (hc : codeIn w p A n) :
    Calls Try.prog 61 #[.pointer (some ⟨p, 0, none⟩)] (srcW w d p A n cap k s) fun e w' => ∃ (c s' : Int) (d' : Nat), e = .returned (.int .i64 c) ∧ 0 ≤ c ∧ c < 256 ∧ 0 ≤ s' ∧ s' < 2147483648 ∧ w' = srcW w d' p A n cap ((k + 1 : Nat) : Int) s' := by
  unfold maxLen at hn
  have q0 : (0 : Int) ≤ (k : Int) := by omega
  have q1 : (k : Int) < 4611686018427387904 := by omega
  by_cases hlt : k < n
  · obtain ⟨b, off, rfl, hbp, hcell⟩ := hc (by omega)
    obtain ⟨c, c0, c1, hcc⟩ := hcell k hlt
    clear hcell hc
    have t1 : (k : Int) + 1 ≤ (n : Int) := by omega
    go_enter Try.func61, Try.ntmps61
    go_wp2
    go_quiet (fail)
    rw [drewN_src]
    go_wp2
    go_region
    go_wp2
    go_region
    go_wp2
    go_ret
    exact ⟨c, (s * 31 + c + 7) % 2147483648, _, rfl, c0, c1, by omega, by omega, rfl⟩
  · have t1 : ¬ ((k : Int) + 1 ≤ (n : Int)) := by omega
    have t2 : decide ((k : Int) + 1 ≤ (n : Int)) = false := by simpa using t1
    by_cases h3 : 3000 < k + 1
    · have t3 : (3000 : Int) < (k : Int) + 1 := by omega
      go_enter Try.func61, Try.ntmps61
      go_wp2
      go_quiet (fail)
      rw [drewN_src]
      go_wp2
      go_ret
      exact ⟨0, s, d + nq, rfl, by omega, by omega, s0, s1, rfl⟩
    · have t3 : (k : Int) + 1 ≤ 3000 := by omega
      have t4 : decide ((3000 : Int) < (k : Int) + 1) = false := by simp; omega
      clear h3 hlt t1 hc hk q1 hn
      go_enter Try.func61, Try.ntmps61
      go_wp2
      go_quiet (fail)
      rw [drewN_src]
      go_wp2
      go_ret
      exact ⟨(s * 1103515245 + 12345) % 2147483648 / 65536 % 256, (s * 1103515245 + 12345) % 2147483648, d + nq, rfl, by omega, by omega, by omega, by omega, rfl⟩
theorem next_any (N : Int) (w : World) (d p : Nat) (A : Option Addr) (n cap k : Nat) (s : Int) (hN : 1 < N) (hN2 : N ≤ 256) (hp : p < w.heap.size) (hn : n ≤ maxLen) (hk : k < 4611686018427387904) (s0 : 0 ≤ s) (s1 : s < 2147483648) (hc : codeIn w p A n) :
    Calls Try.prog 47 #[.pointer (some ⟨p, 0, none⟩), .int .i64 N] (srcW w d p A n cap k s) fun e w' => ∃ (c s' : Int) (d' : Nat), e = .returned (.int .i64 c) ∧ 0 ≤ c ∧ c < N ∧ 0 ≤ s' ∧ s' < 2147483648 ∧ w' = srcW w d' p A n cap ((k + 1 : Nat) : Int) s' := by
  go_enter Try.func47, Try.ntmps47
  go_wp2_with fail
  refine (byte_any w d p A n cap k s hp hn hk s0 s1 hc).mono ?_
  rintro e w1 ⟨c, s', d', rfl, c0, c1, s0', s1', rfl⟩
  go_wp2
  go_ret
  exact ⟨_, s', d', rfl, Int.emod_nonneg _ (by omega), Int.emod_lt_of_pos _ (by omega), s0', s1', rfl⟩
theorem codeIn_grown {w w' : World} {p n : Nat} {A : Option Addr} (h : codeIn w p A n) (hg : w.grownBy w' (some p)) : codeIn w' p A n := fun hn => by
  obtain ⟨b, off, hA, hb, hcell⟩ := h hn
  refine ⟨b, off, hA, hb, fun i hi => ?_⟩
  obtain ⟨c, c0, c1, hc⟩ := hcell i hi
  exact ⟨c, c0, c1, hg.cell hc (by simpa using hb)⟩
theorem grown_src {w w' : World} {d p : Nat} {A : Option Addr} {n cap : Nat} {a s : Int} (h : w.grownBy w' (some p)) : w.grownBy (srcW w' d p A n cap a s) (some p) :=
  ⟨h.os, h.tape, h.output, by rw [size_src]; exact h.size, fun k hk hne => by
    rw [get_src_other _ _ _ _ _ _ _ _ _ (fun e => hne (by rw [e]))]
    exact h.block k hk hne⟩
theorem grown_trans {w w' w'' : World} {p : Nat} {row : Option Nat} (h : w.grownBy w' (some p)) (hg : w'.grownBy w'' row) (hr : ∀ k, row = some k → w.heap.size ≤ k) : w.grownBy w'' (some p) :=
  ⟨hg.os.trans h.os, hg.tape.trans h.tape, hg.output.trans h.output, Nat.le_trans h.size hg.size, fun k hk hne =>
    (hg.block k (Nat.lt_of_lt_of_le hk h.size) (fun e => by have := hr k e.symm; omega)).trans (h.block k hk hne)⟩
theorem own_src {w : World} {d p base : Nat} {A : Option Addr} {n cap : Nat} {a s : Int} {e size : Nat} {v : Value} {m : Nat} {xs : List Value} (h : w.ownsRow base e size v m xs) (hp : p < base) : (srcW w d p A n cap a s).ownsRow base e size v m xs := by
  refine ⟨h.1, ?_⟩
  rcases h.2 with h | ⟨g, c, cur, hv, hb, hg, h1, h2, h3, ht⟩
  · exact .inl h
  · exact .inr ⟨g, c, cur, hv, hb, by rw [get_src_other _ _ _ _ _ _ _ _ _ (by omega)]; exact hg, h1, h2, h3, ht⟩
theorem next_at (N : Int) (w : World) (p : Nat) (A : Option Addr) (n cap k : Nat) (s : Int) (hs : w.heap[p]? = some (srcO A n cap k s)) (hN : 1 < N) (hN2 : N ≤ 256) (hn : n ≤ maxLen) (hk : k < 4611686018427387904) (s0 : 0 ≤ s) (s1 : s < 2147483648) (hc : codeIn w p A n) :
    Calls Try.prog 47 #[.pointer (some ⟨p, 0, none⟩), .int .i64 N] w fun e w' => ∃ (c s' : Int) (d' : Nat), e = .returned (.int .i64 c) ∧ 0 ≤ c ∧ c < N ∧ 0 ≤ s' ∧ s' < 2147483648 ∧ w' = srcW w d' p A n cap ((k + 1 : Nat) : Int) s' := by
  have h := next_any N w w.drawn p A n cap k s hN hN2 (Array.getElem?_eq_some_iff.1 hs).1 hn hk s0 s1 hc
  rw [src_same _ _ _ _ _ _ _ hs] at h
  exact h
theorem info5 : (Try.prog.info? 5).map (fun i => (i.zero, i.size, i.bytes)) = some (some (.int .u8 0), 1, 1) := by kernel_rfl
theorem own_str {w : World} {base n : Nat} {v : Value} {xs : List Int} (h : w.ownsRow base 5 1 v n (xs.map (Value.int .u8))) (hn : xs.length = n) : (convert 30 9 v).run Try.prog w = .ok (.string (strOfNums xs)) w := by
  rcases h.2 with ⟨rfl, h0⟩ | ⟨g, cap, cur, rfl, hb, hg, h1, h2, h3, ht⟩
  · obtain rfl : xs = [] := List.length_eq_zero_iff.1 (by omega)
    exact run_convert_bytes_nil _ 30 5 Try.underlying30 Try.underlying5 0 0 9 Try.underlying9
  · refine run_convert_bytes_arg _ 30 5 Try.underlying30 Try.underlying5 g 0 n cap xs hn ?_ 9 Try.underlying9
    intro i hi
    rw [Nat.zero_add, Go.cell_of_row _ _ _ _ _ _ hg, ← Array.getElem?_toList]
    have e : (cur.toList.take (n * 1))[i]? = (xs.map (Value.int .u8))[i]? := by rw [ht]
    rw [List.getElem?_take_of_lt (by omega)] at e
    rw [e, List.getElem?_map, List.getD_eq_getElem?_getD, List.getElem?_eq_getElem (by omega)]
    rfl
theorem source_any (A : Option Addr) (n cap : Nat) (hn : n ≤ maxLen) (w : World) :
    Calls Try.prog 25 #[.slice A n cap] w fun e w' => e = .returned (.pointer (some ⟨w.heap.size, 0, none⟩)) ∧ w' = w.alloc (srcO A n cap 0 ((n % 1000 : Nat) : Int)) := by
  unfold maxLen at hn
  go_enter Try.func25, Try.ntmps25
  go_wp2
  go_ret
  exact ⟨rfl, by simp [srcO]⟩
theorem blob_any (N : Nat) (w : World) (p : Nat) (A : Option Addr) (n cap k : Nat) (s : Int) (hs : w.heap[p]? = some (srcO A n cap k s)) (hN : N ≤ 4096) (hn : n ≤ maxLen) (hk : k + N < 4611686018427387904) (s0 : 0 ≤ s) (s1 : s < 2147483648) (hc : codeIn w p A n) :
    Calls Try.prog 26 #[.pointer (some ⟨p, 0, none⟩), .int .i64 N] w fun e w' => ∃ (t : ByteArray) (s' : Int), e = .returned (.string t) ∧ t.size = N ∧ 0 ≤ s' ∧ s' < 2147483648 ∧ w'.heap[p]? = some (srcO A n cap ((k + N : Nat) : Int) s') ∧ w.grownBy w' (some p) := by
  obtain ⟨i0, hi0, hz0, hz1, hz2⟩ := info_parts info5
  have hp := (Array.getElem?_eq_some_iff.1 hs).1
  go_enter Try.func26, Try.ntmps26
  go_wp2
  go_loopw [5, 6] (fun o c wr => ∃ (j : Nat) (xs : List Int) (s' : Int), j ≤ N ∧ xs.length = j ∧ c = .int .i64 j ∧ 0 ≤ s' ∧ s' < 2147483648 ∧ wr.ownsRow w.heap.size 5 1 o j (xs.map (Value.int .u8)) ∧ wr.heap[p]? = some (srcO A n cap ((k + j : Nat) : Int) s') ∧ w.grownBy wr (some p)) (fun _ c _ => N - (intOf c).toNat)
  case atStart => exact ⟨0, [], s, Nat.zero_le _, rfl, rfl, s0, s1, World.ownsRow_made w #[] 0 (Nat.le_refl _) (Nat.zero_le _) rfl, by rw [Below.heap_alloc _ _ _ hp]; exact hs, grown_trans (World.grownBy.refl w _) (World.grownBy_alloc w _ none) (by simp)⟩
  case round =>
    obtain ⟨j, xs, s', hj, hx, rfl, s0', s1', hown, hsrc, hgr⟩ := hrel
    by_cases hlt : j < N
    · have hcl : ∀ i d', (srcW wr d' p A n cap i s').heap.size = wr.heap.size := fun _ _ => size_src _ _ _ _ _ _ _ _
      go_wp2_with fail
      refine (next_at 256 wr p A n cap (k + j) s' hsrc (by omega) (by omega) hn (by omega) s0' s1' (codeIn_grown hc hgr)).mono ?_
      rintro e w1 ⟨c, s2, d2, rfl, c0, c1, s20, s21, rfl⟩
      have ho2 := own_src (d := d2) (A := A) (n := n) (cap := cap) (a := ((k + j + 1 : Nat) : Int)) (s := s2) hown hp
      have hg2 := grown_src (d := d2) (A := A) (n := n) (cap := cap) (a := ((k + j + 1 : Nat) : Int)) (s := s2) hgr
      have hs2 := get_src wr d2 p A n cap ((k + j + 1 : Nat) : Int) s2 (Nat.lt_of_lt_of_le hp hgr.size)
      have hz : w.heap.size ≤ (srcW wr d2 p A n cap ((k + j + 1 : Nat) : Int) s2).heap.size := hg2.size
      generalize srcW wr d2 p A n cap ((k + j + 1 : Nat) : Int) s2 = w2 at *
      clear hown hgr hsrc hcl
      go_wp2_with (at_builtin; refine wpList_append_lies _ rfl _ _ 30 rfl w.heap.size 5 i0 (.int .u8 0) 1 1 Try.underlying30 hi0 hz0 hz1 hz2 rfl (by omega) u5 j (xs.map (Value.int .u8)) rfl (ho2.alloc _)
                    ⟨w2.heap.size, 0, none⟩ 1 1 [.int .u8 c] rfl rfl (World.news_of_block (cs := #[.int .u8 c]) (t := 5) (fr := (0, 0)) (heap_alloc_new w2 _)) (by simp [Value.oneCell'])
                    (by omega) (by unfold maxLen; omega) (by omega) (by simp; omega) (w2.heap.size + 1) (by simp) ?_; intro gg cp w3 hown3 hgrow3 hat hltg)
      go_wp2
      go_roundw
      case rel =>
        refine ⟨j + 1, xs ++ [c], s2, by omega, by simp [hx], by go_num, s20, s21, by rw [List.map_append]; exact hown3, ?_, ?_⟩
        · rw [hgrow3.block p (by simp; omega) (fun e => by have := (ho2.lt p e.symm).1; omega), Below.heap_alloc _ _ _ (by omega)]
          exact hs2
        · exact grown_trans (grown_trans hg2 (World.grownBy_alloc w2 _ none) (by simp)) hgrow3 fun k hk => (ho2.lt k hk).1
      case measure => simp [intOf]; omega
    · obtain rfl : j = N := by omega
      have hc := own_str hown hx
      go_wp2
      go_ret
      exact ⟨_, s', rfl, by rw [strOfNums_size]; exact hx, s0', s1', hsrc, hgr⟩
/-- the bytes that a slice leads to lie in w -/
def codeAt (w : World) (A : Option Addr) (n : Nat) : Prop := 0 < n → ∃ b off, A = some ⟨b, off, none⟩ ∧ ∀ i, i < n → ∃ c : Int, 0 ≤ c ∧ c < 256 ∧ w.cell? ⟨b, off + i, none⟩ = some (.int .u8 c)
theorem codeAt_below {w w' : World} {A : Option Addr} {n : Nat} (h : codeAt w A n) (hb : Below w.heap.size w w') : codeAt w' A n := fun hn => by
  obtain ⟨b, off, hA, hcell⟩ := h hn
  refine ⟨b, off, hA, fun i hi => ?_⟩
  obtain ⟨c, c0, c1, hc⟩ := hcell i hi
  exact ⟨c, c0, c1, by rw [hb.cell (World.block_lt_of_cell? w _ hc)]; exact hc⟩
theorem codeIn_alloc {w : World} {A : Option Addr} {n : Nat} (h : codeAt w A n) (o : Obj) : codeIn (w.alloc o) w.heap.size A n := fun hn => by
  obtain ⟨b, off, hA, hcell⟩ := h hn
  obtain ⟨_, _, _, h0⟩ := hcell 0 hn
  have hlt : b < w.heap.size := World.block_lt_of_cell? w _ h0
  refine ⟨b, off, hA, by omega, fun i hi => ?_⟩
  obtain ⟨c, c0, c1, hc⟩ := hcell i hi
  exact ⟨c, c0, c1, by rw [((Below.refl w.heap.size w).alloc (Nat.le_refl _) o).cell hlt]; exact hc⟩
theorem blobOf_any (N : Nat) (A : Option Addr) (n cap : Nat) (w : World) (hN : N ≤ 4096) (hn : n ≤ maxLen) (hc : codeAt w A n) :
    Calls Try.prog 14 #[.slice A n cap, .int .i64 N] w fun e w' => ∃ t : ByteArray, e = .returned (.string t) ∧ t.size = N ∧ Below w.heap.size w w' := by
  go_enter Try.func14, Try.ntmps14
  go_wp2_with fail
  refine (source_any A n cap hn w).mono ?_
  rintro e w1 ⟨rfl, rfl⟩
  go_wp2_with fail
  refine (blob_any N _ w.heap.size A n cap 0 _ (heap_alloc_new w _) hN hn (by omega) (by omega) (by omega) (codeIn_alloc hc _)).mono ?_
  rintro e w2 ⟨t, s', rfl, ht, s0, s1, hs, hg⟩
  go_wp2
  go_ret
  exact ⟨t, rfl, ht, Below.grown ((Below.refl _ w).alloc (Nat.le_refl _) _) hg (by simp) (by simp)⟩
end Go.Proofs.Ytncplefjokbbjaa
/- What an argument of bytes, read, gives the walks: where its bytes lie. -/
namespace Go.Proofs.Ytncplefjokbbjaa
open Go.ChangeShapes Go.WideShapes Go.ChangeAt Go.RowKit
theorem cells5 : Try.prog.cellsOf 5 = 1 := by kernel_rfl
theorem wf_u8_bd {n : Int} (h : (Lit.int .u8 n).wf = true) : 0 ≤ n ∧ n < 256 := by
  simp [Lit.wf, IntKind.min, IntKind.max, IntKind.bits, IntKind.signed] at h
  omega
theorem code_of_trod {H : Type} {enc : TypeId × Value → H} {W : World} {A : Option Addr} {n cap : Nat} {d : DataW H} {ps : List MemPlace}
    (h : DataW.Trod enc Try.prog W 0 (fun _ => true) true 30 (.slice A n cap) d ps) : n ≤ maxLen ∧ codeAt W A n := by
  obtain ⟨fuel, hf⟩ := h
  rcases open_ints Try.underlying30 Try.underlying5 cells5 hf with ⟨hcs, hx⟩ | ⟨a, len', cap', zs, hcs, _, hl, hm, hz, hx, hcell, hwz⟩
  · simp [Value.cells] at hcs
    obtain ⟨rfl, rfl, rfl⟩ := hcs
    exact ⟨Nat.zero_le _, fun h => absurd h (Nat.lt_irrefl _)⟩
  · simp [Value.cells] at hcs
    obtain ⟨rfl, rfl, rfl⟩ := hcs
    simp only [if_true] at hz
    refine ⟨Nat.le_trans hl hm, fun h0 => ?_⟩
    obtain ⟨b, off, rfl, hc⟩ := ints_at hcell (by omega)
    refine ⟨b, off, rfl, fun i hi => ?_⟩
    have hi' : i < zs.length := by omega
    have hb := wf_u8_bd (hwz (zs.getD i 0) (by rw [List.getD_eq_getElem?_getD, List.getElem?_eq_getElem hi']; exact List.getElem_mem hi'))
    exact ⟨zs.getD i 0, hb.1, hb.2, hc i hi'⟩
end Go.Proofs.Ytncplefjokbbjaa
/- The curve's points as a group, after Edwards: sums without exceptions, their law, and how a point's u goes up. No program in it. -/
namespace Go.Proofs.Ytncplefjokbbjaa
structure Pt (n : Nat) where
  x : Fin n
  y : Fin n
section
variable {n : Nat} [NeZero n]
/-- a field, and what the curve's number must be: no square, while -1 is one -/
structure Good (iv : Fin n → Fin n) (d i k hf : Fin n) : Prop where
  inv : ∀ a, a ≠ 0 → a * iv a = 1
  one : (1 : Fin n) ≠ 0
  two : 2 * hf = 1
  neg : i * i = -1
  non : ∀ z : Fin n, z * z ≠ d
  fac : d * (k + 1) = -k
  k1 : k + 1 ≠ 0
def On (d : Fin n) (p : Pt n) : Prop := p.y * p.y - p.x * p.x = 1 + d * p.x * p.x * p.y * p.y
def add (iv : Fin n → Fin n) (d : Fin n) (p q : Pt n) : Pt n := ⟨(p.x * q.y + q.x * p.y) * iv (1 + d * p.x * q.x * p.y * q.y), (p.y * q.y + p.x * q.x) * iv (1 - d * p.x * q.x * p.y * q.y)⟩
def zero : Pt n := ⟨0, 1⟩
def neg (p : Pt n) : Pt n := ⟨-p.x, p.y⟩
variable {iv : Fin n → Fin n} {d i k hf : Fin n}
theorem mz (g : Good iv d i k hf) {a b : Fin n} (h : a * b = 0) : a = 0 ∨ b = 0 := by
  by_cases ha : a = 0
  · exact .inl ha
  · have := g.inv a ha
    exact .inr (by grobner)
theorem sq0 (g : Good iv d i k hf) {a : Fin n} (h : a * a = 0) : a = 0 := (mz g h).elim id id
theorem can (g : Good iv d i k hf) {a b c : Fin n} (ha : a ≠ 0) (h : a * b = a * c) : b = c := by
  have := g.inv a ha
  grobner
/-- no sum has a denominator of nought -/
theorem no_eps (g : Good iv d i k hf) {x1 y1 x2 y2 ε : Fin n} (e1 : y1*y1 - x1*x1 = 1 + d*x1*x1*y1*y1) (e2 : y2*y2 - x2*x2 = 1 + d*x2*x2*y2*y2) (he : d*x1*x2*y1*y2 = ε) (h1 : ε * ε = 1) : False := by
  have hi := g.neg
  have h2 := g.two
  have h0 := g.one
  have hx : x1 * y1 ≠ 0 := fun h => by
    have : ε = 0 := by rw [← he]; grobner
    apply h0; rw [← h1, this]; grobner
  have key1 : (i * x1 + ε * y1) * (i * x1 + ε * y1) = d * ((x1 * y1 * (i * x2 + y2)) * (x1 * y1 * (i * x2 + y2))) := by grobner
  have key2 : (i * x1 - ε * y1) * (i * x1 - ε * y1) = d * ((x1 * y1 * (i * x2 - y2)) * (x1 * y1 * (i * x2 - y2))) := by grobner
  have go : ∀ N D : Fin n, D ≠ 0 → N * N = d * (D * D) → False := fun N D hD hN => by
    have := g.inv D hD
    apply g.non (N * iv D)
    generalize iv D = D' at *
    grobner
  by_cases ha : i * x2 + y2 = 0
  · by_cases hb : i * x2 - y2 = 0
    · have : y2 = 0 := by grobner
      have : ε = 0 := by rw [← he]; grobner
      apply h0; rw [← h1, this]; grobner
    · exact go _ _ (fun h => (mz g h).elim hx hb) key2
  · exact go _ _ (fun h => (mz g h).elim hx ha) key1
theorem den (g : Good iv d i k hf) {p q : Pt n} (hp : On d p) (hq : On d q) : 1 + d * p.x * q.x * p.y * q.y ≠ 0 ∧ 1 - d * p.x * q.x * p.y * q.y ≠ 0 := by
  constructor
  · intro h
    exact no_eps g hp hq (ε := -1) (by grobner) (by grobner)
  · intro h
    exact no_eps g hp hq (ε := 1) (by grobner) (by grobner)
theorem on_add (g : Good iv d i k hf) {p q : Pt n} (hp : On d p) (hq : On d q) : On d (add iv d p q) := by
  obtain ⟨h1, h2⟩ := den g hp hq
  have i1 := g.inv _ h1
  have i2 := g.inv _ h2
  obtain ⟨x1, y1⟩ := p
  obtain ⟨x2, y2⟩ := q
  unfold On add at *
  simp only at *
  have k1 : ((y1*y2+x1*x2)*(y1*y2+x1*x2))*((1+d*x1*x2*y1*y2)*(1+d*x1*x2*y1*y2)) - ((x1*y2+x2*y1)*(x1*y2+x2*y1))*((1-d*x1*x2*y1*y2)*(1-d*x1*x2*y1*y2)) = (1+d*x1*x2*y1*y2)*(1+d*x1*x2*y1*y2)*((1-d*x1*x2*y1*y2)*(1-d*x1*x2*y1*y2)) + d * (x1*y2+x2*y1)*(x1*y2+x2*y1)*(y1*y2+x1*x2)*(y1*y2+x1*x2) := by
    clear i1 i2 h1 h2
    grobner
  clear hp hq h1 h2
  generalize iv (1+d*x1*x2*y1*y2) = u' at *
  generalize iv (1-d*x1*x2*y1*y2) = v' at *
  generalize 1+d*x1*x2*y1*y2 = u at *
  generalize 1-d*x1*x2*y1*y2 = v at *
  generalize x1*y2+x2*y1 = s at *
  generalize y1*y2+x1*x2 = m at *
  have b : m * v' * (m * v') - s * u' * (s * u') = (m * m * (u * u) - s * s * (v * v)) * (u' * u' * (v' * v')) := by
    have : m * v' * (m * v') = m * v' * (m * v') * ((u * u') * (u * u')) := by rw [i1]; grobner
    have : s * u' * (s * u') = s * u' * (s * u') * ((v * v') * (v * v')) := by rw [i2]; grobner
    grobner
  rw [b, k1]
  have : (u * u * (v * v) + d * s * s * m * m) * (u' * u' * (v' * v')) = (u * u') * (u * u') * ((v * v') * (v * v')) + d * (s * u') * (s * u') * (m * v') * (m * v') := by grobner
  rw [this, i1, i2]
  grobner
theorem pt_ext {m : Nat} {p q : Pt m} (hx : p.x = q.x) (hy : p.y = q.y) : p = q := by cases p; cases q; simp_all
theorem add_comm (iv : Fin n → Fin n) (d : Fin n) (p q : Pt n) : add iv d p q = add iv d q p := by
  unfold add; apply pt_ext <;> simp only
  · rw [show p.x * q.y + q.x * p.y = q.x * p.y + p.x * q.y by grobner, show 1 + d * p.x * q.x * p.y * q.y = 1 + d * q.x * p.x * q.y * p.y by grobner]
  · rw [show p.y * q.y + p.x * q.x = q.y * p.y + q.x * p.x by grobner, show 1 - d * p.x * q.x * p.y * q.y = 1 - d * q.x * p.x * q.y * p.y by grobner]
theorem iv_one (g : Good iv d i k hf) : iv 1 = 1 := by
  have := g.inv 1 g.one
  grobner
theorem add_zero (g : Good iv d i k hf) (p : Pt n) : add iv d p zero = p := by
  have h1 := iv_one g
  unfold add zero; apply pt_ext <;> simp only
  · rw [show 1 + d * p.x * 0 * p.y * 1 = 1 by grobner, h1]; grobner
  · rw [show 1 - d * p.x * 0 * p.y * 1 = 1 by grobner, h1]; grobner
theorem zero_add (g : Good iv d i k hf) (p : Pt n) : add iv d zero p = p := by rw [add_comm, add_zero g]
theorem on_zero (d : Fin n) : On d (zero : Pt n) := by unfold On zero; simp only; grobner
theorem on_neg {p : Pt n} (h : On d p) : On d (neg p) := by unfold On neg at *; simp only; grobner
theorem assocX (d x1 y1 x2 y2 x3 y3 : Fin n) (e1 : y1*y1 - x1*x1 = 1 + d*x1*x1*y1*y1) (e2 : y2*y2 - x2*x2 = 1 + d*x2*x2*y2*y2) (e3 : y3*y3 - x3*x3 = 1 + d*x3*x3*y3*y3) :
  ((x1*y2+x2*y1)*(1-d*x1*x2*y1*y2)*y3 + (y1*y2+x1*x2)*(1+d*x1*x2*y1*y2)*x3) * ((1+d*x2*x3*y2*y3)*(1-d*x2*x3*y2*y3) + d*(x2*y3+x3*y2)*(y2*y3+x2*x3)*x1*y1)
  = (x1*(y2*y3+x2*x3)*(1+d*x2*x3*y2*y3) + (x2*y3+x3*y2)*(1-d*x2*x3*y2*y3)*y1) * ((1+d*x1*x2*y1*y2)*(1-d*x1*x2*y1*y2) + d*(x1*y2+x2*y1)*(y1*y2+x1*x2)*x3*y3) := by
  grobner
theorem assocY (d x1 y1 x2 y2 x3 y3 : Fin n) (e1 : y1*y1 - x1*x1 = 1 + d*x1*x1*y1*y1) (e2 : y2*y2 - x2*x2 = 1 + d*x2*x2*y2*y2) (e3 : y3*y3 - x3*x3 = 1 + d*x3*x3*y3*y3) :
  ((y1*y2+x1*x2)*(1+d*x1*x2*y1*y2)*y3 + (x1*y2+x2*y1)*(1-d*x1*x2*y1*y2)*x3) * ((1+d*x2*x3*y2*y3)*(1-d*x2*x3*y2*y3) - d*(x2*y3+x3*y2)*(y2*y3+x2*x3)*x1*y1)
  = (y1*(y2*y3+x2*x3)*(1+d*x2*x3*y2*y3) + (x2*y3+x3*y2)*(1-d*x2*x3*y2*y3)*x1) * ((1+d*x1*x2*y1*y2)*(1-d*x1*x2*y1*y2) - d*(x1*y2+x2*y1)*(y1*y2+x1*x2)*x3*y3) := by
  grobner
/-- a sum's fractions brought together: times the joined denominator -/
theorem frac (g : Good iv d i k hf) {s u m v a b : Fin n} (hu : u ≠ 0) (hv : v ≠ 0) (hD : 1 + d * (s * iv u) * a * (m * iv v) * b ≠ 0) :
    (s * iv u * b + a * (m * iv v)) * iv (1 + d * (s * iv u) * a * (m * iv v) * b) * (u * v + d * s * m * a * b) = s * v * b + m * u * a ∧ u * v + d * s * m * a * b ≠ 0 := by
  have i1 := g.inv _ hu
  have i2 := g.inv _ hv
  have i3 := g.inv _ hD
  generalize iv (1 + d * (s * iv u) * a * (m * iv v) * b) = w at *
  generalize iv u = u' at *
  generalize iv v = v' at *
  have hE : u * v + d * s * m * a * b = (u * v) * (1 + d * (s * u') * a * (m * v') * b) := by
    have : (u * v) * (1 + d * (s * u') * a * (m * v') * b) = u * v + d * s * m * a * b * ((u * u') * (v * v')) := by grobner
    rw [this, i1, i2]; grobner
  have hN : s * v * b + m * u * a = (u * v) * (s * u' * b + a * (m * v')) := by
    have : (u * v) * (s * u' * b + a * (m * v')) = s * v * b * (u * u') + m * u * a * (v * v') := by grobner
    rw [this, i1, i2]; grobner
  rw [hE, hN]
  refine ⟨?_, fun h => (mz g h).elim (fun h => (mz g h).elim hu hv) hD⟩
  generalize 1 + d * (s * u') * a * (m * v') * b = D at *
  clear hE hN i1 i2
  grobner
theorem frac2 (g : Good iv d i k hf) {s u m v a b : Fin n} (hu : u ≠ 0) (hv : v ≠ 0) (hD : 1 - d * (s * iv u) * a * (m * iv v) * b ≠ 0) :
    (m * iv v * b + s * iv u * a) * iv (1 - d * (s * iv u) * a * (m * iv v) * b) * (u * v - d * s * m * a * b) = m * u * b + s * v * a ∧ u * v - d * s * m * a * b ≠ 0 := by
  have i1 := g.inv _ hu
  have i2 := g.inv _ hv
  have i3 := g.inv _ hD
  generalize iv (1 - d * (s * iv u) * a * (m * iv v) * b) = w at *
  generalize iv u = u' at *
  generalize iv v = v' at *
  have hE : u * v - d * s * m * a * b = (u * v) * (1 - d * (s * u') * a * (m * v') * b) := by
    have : (u * v) * (1 - d * (s * u') * a * (m * v') * b) = u * v - d * s * m * a * b * ((u * u') * (v * v')) := by grobner
    rw [this, i1, i2]; grobner
  have hN : m * u * b + s * v * a = (u * v) * (m * v' * b + s * u' * a) := by
    have : (u * v) * (m * v' * b + s * u' * a) = m * u * b * (v * v') + s * v * a * (u * u') := by grobner
    rw [this, i1, i2]; grobner
  rw [hE, hN]
  refine ⟨?_, fun h => (mz g h).elim (fun h => (mz g h).elim hu hv) hD⟩
  generalize 1 - d * (s * u') * a * (m * v') * b = D at *
  clear hE hN i1 i2
  grobner
theorem fin_eq (g : Good iv d i k hf) {A B C D P Q : Fin n} (hB : B ≠ 0) (hD : D ≠ 0) (h1 : P * B = A) (h2 : Q * D = C) (h3 : A * D = C * B) : P = Q := by
  apply can g hB
  apply can g hD
  clear hB hD
  grobner
theorem add_assoc (g : Good iv d i k hf) {p q r : Pt n} (hp : On d p) (hq : On d q) (hr : On d r) : add iv d (add iv d p q) r = add iv d p (add iv d q r) := by
  obtain ⟨a1, a2⟩ := den g hp hq
  obtain ⟨b1, b2⟩ := den g hq hr
  obtain ⟨c1, c2⟩ := den g (on_add g hp hq) hr
  obtain ⟨e1, e2⟩ := den g (on_add g hq hr) hp
  have X := assocX d p.x p.y q.x q.y r.x r.y hp hq hr
  have Y := assocY d p.x p.y q.x q.y r.x r.y hp hq hr
  rw [add_comm iv d p (add iv d q r)]
  obtain ⟨x1, y1⟩ := p
  obtain ⟨x2, y2⟩ := q
  obtain ⟨x3, y3⟩ := r
  unfold add at *
  simp only at *
  clear hp hq hr
  obtain ⟨hx1, nx1⟩ := frac g (s := x1*y2+x2*y1) (m := y1*y2+x1*x2) (a := x3) (b := y3) a1 a2 c1
  obtain ⟨hx2, nx2⟩ := frac g (s := x2*y3+x3*y2) (m := y2*y3+x2*x3) (a := x1) (b := y1) b1 b2 e1
  obtain ⟨hy1, ny1⟩ := frac2 g (s := x1*y2+x2*y1) (m := y1*y2+x1*x2) (a := x3) (b := y3) a1 a2 c2
  obtain ⟨hy2, ny2⟩ := frac2 g (s := x2*y3+x3*y2) (m := y2*y3+x2*x3) (a := x1) (b := y1) b1 b2 e2
  apply pt_ext <;> simp only
  · exact fin_eq g nx1 nx2 hx1 hx2 (by rw [X]; clear a1 a2 b1 b2 c1 c2 e1 e2 X Y hx1 hx2 hy1 hy2; grobner)
  · exact fin_eq g ny1 ny2 hy1 hy2 (by rw [Y]; clear a1 a2 b1 b2 c1 c2 e1 e2 X Y hx1 hx2 hy1 hy2; grobner)
theorem add_neg (g : Good iv d i k hf) {p : Pt n} (hp : On d p) : add iv d p (neg p) = zero := by
  obtain ⟨_, a2⟩ := den g hp (on_neg hp)
  have i2 := g.inv _ a2
  obtain ⟨x, y⟩ := p
  unfold On add neg zero at *
  simp only at *
  apply pt_ext <;> simp only
  · rw [show x * y + -x * y = 0 by grobner]; grobner
  · have : y * y + x * -x = 1 - d * x * -x * y * y := by grobner
    rw [this]; exact i2
/-- x over z is a point's u -/
def Rep (X Z : Fin n) (p : Pt n) : Prop := X * (1 - p.y) = Z * (1 + p.y) ∧ ¬ (X = 0 ∧ Z = 0)
theorem rep_lam (g : Good iv d i k hf) {X Z : Fin n} {p : Pt n} (h : Rep X Z p) : ∃ l : Fin n, l ≠ 0 ∧ X = l * (1 + p.y) ∧ Z = l * (1 - p.y) := by
  have h2 := g.two
  obtain ⟨h1, hn⟩ := h
  generalize p.y = y at *
  refine ⟨(X + Z) * hf, ?_, ?_, ?_⟩
  · intro h
    have hxz : X + Z = 0 := by
      have : (X + Z) * hf * 2 = 0 := by rw [h]; grobner
      clear hn
      grobner
    apply hn
    have hx : X = 0 := by
      have e1 : X * (1 - y) = -X * (1 + y) := by clear hn; grobner
      have : 2 * X = 0 := by clear hn; grobner
      have : X = 2 * X * hf := by clear hn; grobner
      clear hn
      grobner
    exact ⟨hx, by clear hn; grobner⟩
  · clear hn; grobner
  · clear hn; grobner
theorem two_ne (g : Good iv d i k hf) : (2 : Fin n) ≠ 0 := fun h => by
  have := g.two
  apply g.one
  rw [← this, h]; grobner
theorem lam_rep (g : Good iv d i k hf) {X Z l : Fin n} {p : Pt n} (hl : l ≠ 0) (hX : X = l * (1 + p.y)) (hZ : Z = l * (1 - p.y)) : Rep X Z p := by
  refine ⟨by grobner, ?_⟩
  rintro ⟨rfl, rfl⟩
  have : 2 * l = 0 := by clear hl; grobner
  exact (mz g this).elim (two_ne g) hl
def dblX (X Z : Fin n) : Fin n := (X + Z) * (X + Z) * ((X - Z) * (X - Z))
def dblZ (k X Z : Fin n) : Fin n := ((X + Z) * (X + Z) - (X - Z) * (X - Z)) * ((X + Z) * (X + Z) + k * ((X + Z) * (X + Z) - (X - Z) * (X - Z)))
theorem dbl_key (g : Good iv d i k hf) {x y : Fin n} (hp : y * y - x * x = 1 + d * x * x * y * y) : y * y = (1 + k * (1 - y * y)) * (1 + x * x) := by
  have hf := g.fac
  have hk := g.k1
  have h0 := g.one
  have hd : (1 + d) * (k + 1) = 1 := by clear hk h0; grobner
  have h1 : x * x * (1 + d * (y * y)) = y * y - 1 := by clear hk h0; grobner
  have h3 : (1 + x * x) * (1 + d * (y * y)) = y * y * (1 + d) := by clear hk h0; grobner
  have h4 : (1 + k * (1 - y * y)) * (1 + d) = 1 + d * (y * y) := by clear hk h0; grobner
  have h5 : 1 + d * (y * y) ≠ 0 := by
    intro hz
    have hd1 : 1 + d ≠ 0 := fun h => by
      apply h0; rw [← hd, h]; grobner
    have hy : y * y = 0 := by
      have : y * y * (1 + d) = 0 := by rw [← h3, hz]; grobner
      exact (mz g this).resolve_right hd1
    apply h0
    have : 1 + d * (y * y) = 1 := by rw [hy]; grobner
    rw [← this]; exact hz
  apply can g h5
  clear hk h0 h5
  grobner
theorem rep_dbl (g : Good iv d i k hf) {X Z : Fin n} {p : Pt n} (hp : On d p) (h : Rep X Z p) : Rep (dblX X Z) (dblZ k X Z) (add iv d p p) := by
  obtain ⟨l, hl, rfl, rfl⟩ := rep_lam g h
  obtain ⟨_, a2⟩ := den g hp hp
  have i2 := g.inv _ a2
  obtain ⟨x, y⟩ := p
  unfold On at hp
  unfold Rep dblX dblZ add
  simp only at *
  clear h
  have key := dbl_key g hp
  have hden : 1 - d * x * x * y * y = 2 - y * y + x * x := by clear hl a2; grobner
  generalize iv (1 - d * x * x * y * y) = D' at *
  generalize 1 - d * x * x * y * y = D at *
  have f1 : (l * (1 + y) + l * (1 - y)) = 2 * l := by clear hl a2; grobner
  have f2 : (l * (1 + y) - l * (1 - y)) = 2 * l * y := by clear hl a2; grobner
  rw [f1, f2]
  refine ⟨?_, ?_⟩
  · have e1 : 1 + (y * y + x * x) * D' = (2 + 2 * (x * x)) * D' := by clear hl a2; grobner
    have e2 : 1 - (y * y + x * x) * D' = (2 - 2 * (y * y)) * D' := by clear hl a2; grobner
    rw [e1, e2]
    clear hl a2 e1 e2 hp hden i2 f1 f2
    generalize 2 * l = t at *
    grobner
  · rintro ⟨hX, hZ⟩
    have hl2 : 2 * l ≠ 0 := fun h => (mz g h).elim (two_ne g) hl
    generalize 2 * l = t at *
    have hy : y = 0 := by
      rcases mz g hX with h | h
      · exact absurd (sq0 g h) hl2
      · exact (mz g (sq0 g h)).resolve_left hl2
    subst hy
    have h3 : t * t * (t * t * (k + 1)) = 0 := by clear hl2 hl a2; grobner
    have h4 : t * t ≠ 0 := fun h => hl2 (sq0 g h)
    rcases mz g h3 with h | h
    · exact h4 h
    · exact (mz g h).elim h4 g.k1
def sumX (x z p q : Fin n) : Fin n := ((p - q) * (x + z) + (p + q) * (x - z)) * ((p - q) * (x + z) + (p + q) * (x - z))
def sumZ (u x z p q : Fin n) : Fin n := u * (((p - q) * (x + z) - (p + q) * (x - z)) * ((p - q) * (x + z) - (p + q) * (x - z)))
/-- the identity behind sums of points whose difference is known -/
theorem sum_key (d x1 y1 x2 y2 : Fin n) (e1 : y1*y1 - x1*x1 = 1 + d*x1*x1*y1*y1) (e2 : y2*y2 - x2*x2 = 1 + d*x2*x2*y2*y2) :
    (y1+y2)*(y1+y2)*((1-d*x1*x2*y1*y2) - (y1*y2+x1*x2))*((1+d*x1*x2*y1*y2) - (y1*y2-x1*x2)) = (y2-y1)*(y2-y1)*((1-d*x1*x2*y1*y2)+(y1*y2+x1*x2))*((1+d*x1*x2*y1*y2)+(y1*y2-x1*x2)) := by grobner
theorem rep_sum (g : Good iv d i k hf) {x z P Q u : Fin n} {a b : Pt n} (ha : On d a) (hb : On d b) (h1 : Rep x z a) (h2 : Rep P Q b) (hu : Rep u 1 (add iv d b (neg a))) (hu0 : u ≠ 0) :
    Rep (sumX x z P Q) (sumZ u x z P Q) (add iv d a b) := by
  obtain ⟨l, hl, rfl, rfl⟩ := rep_lam g h1
  obtain ⟨m, hm, rfl, rfl⟩ := rep_lam g h2
  obtain ⟨a1, a2⟩ := den g ha hb
  have i1 := g.inv _ a1
  have i2 := g.inv _ a2
  obtain ⟨x1, y1⟩ := a
  obtain ⟨x2, y2⟩ := b
  have key := sum_key d x1 y1 x2 y2 ha hb
  unfold On at ha hb
  unfold Rep sumX sumZ add neg at *
  simp only at *
  clear h1 h2
  obtain ⟨hu, _⟩ := hu
  rw [show 1 - d * x2 * -x1 * y2 * y1 = 1 + d * x1 * x2 * y1 * y2 by clear hl hm hu0 a1 a2; grobner, show y2 * y1 + x2 * -x1 = y1*y2 - x1*x2 by clear hl hm hu0 a1 a2; grobner] at hu
  have hu2 : u * ((1+d*x1*x2*y1*y2) - (y1*y2-x1*x2)) = (1+d*x1*x2*y1*y2) + (y1*y2-x1*x2) := by
    generalize y1*y2-x1*x2 = s at *
    generalize iv (1+d*x1*x2*y1*y2) = D' at *
    generalize 1+d*x1*x2*y1*y2 = D at *
    clear hl hm hu0 a1 a2 key ha hb i2
    grobner
  have hnz : (1+d*x1*x2*y1*y2) - (y1*y2-x1*x2) ≠ 0 := by
    intro h0
    rw [h0] at hu2
    apply a1
    generalize y1*y2-x1*x2 = s at *
    generalize 1+d*x1*x2*y1*y2 = D at *
    have : 2 * D = 0 := by clear hl hm hu0 a1 a2 key ha hb i1 i2 hu; grobner
    exact (mz g this).resolve_left (two_ne g)
  have main : (y1+y2)*(y1+y2)*((1-d*x1*x2*y1*y2) - (y1*y2+x1*x2)) = u * ((y2-y1)*(y2-y1))*((1-d*x1*x2*y1*y2)+(y1*y2+x1*x2)) := by
    clear hu i1 i2 ha hb
    generalize (1-d*x1*x2*y1*y2) - (y1*y2+x1*x2) = s1 at *
    generalize (1-d*x1*x2*y1*y2)+(y1*y2+x1*x2) = s2 at *
    generalize (1+d*x1*x2*y1*y2) - (y1*y2-x1*x2) = t1 at *
    generalize (1+d*x1*x2*y1*y2)+(y1*y2-x1*x2) = t2 at *
    apply can g hnz
    clear hl hm hu0 a1 a2 hnz
    grobner
  have f1 : (m * (1 + y2) - m * (1 - y2)) * (l * (1 + y1) + l * (1 - y1)) + (m * (1 + y2) + m * (1 - y2)) * (l * (1 + y1) - l * (1 - y1)) = 2 * 2 * l * m * (y1 + y2) := by clear hl hm hu0 a1 a2 hnz main hu hu2 key ha hb i1 i2; grobner
  have f2 : (m * (1 + y2) - m * (1 - y2)) * (l * (1 + y1) + l * (1 - y1)) - (m * (1 + y2) + m * (1 - y2)) * (l * (1 + y1) - l * (1 - y1)) = 2 * 2 * l * m * (y2 - y1) := by clear hl hm hu0 a1 a2 hnz main hu hu2 key ha hb i1 i2 f1; grobner
  rw [f1, f2]
  have hc : 2 * 2 * l * m ≠ 0 := fun h => by
    rcases mz g h with h | h
    · rcases mz g h with h | h
      · exact two_ne g (sq0 g h)
      · exact hl h
    · exact hm h
  clear key hu f1 f2 i1
  generalize 2 * 2 * l * m = t at *
  refine ⟨?_, ?_⟩
  · generalize iv (1-d*x1*x2*y1*y2) = D' at *
    have e1 : 1 + (y1 * y2 + x1 * x2) * D' = ((1 - d * x1 * x2 * y1 * y2) + (y1 * y2 + x1 * x2)) * D' := by
      clear hl hm hu0 a1 a2 hnz main hu2 ha hb hc
      generalize 1-d*x1*x2*y1*y2 = D at *
      grobner
    have e2 : 1 - (y1 * y2 + x1 * x2) * D' = ((1 - d * x1 * x2 * y1 * y2) - (y1 * y2 + x1 * x2)) * D' := by
      clear hl hm hu0 a1 a2 hnz main hu2 ha hb hc
      generalize 1-d*x1*x2*y1*y2 = D at *
      grobner
    rw [e1, e2]
    generalize (1-d*x1*x2*y1*y2) - (y1*y2+x1*x2) = s1 at *
    generalize (1-d*x1*x2*y1*y2)+(y1*y2+x1*x2) = s2 at *
    clear hl hm hu0 a1 a2 hnz hu2 ha hb hc e1 e2 i2
    grobner
  · rintro ⟨hX, hZ⟩
    have g1 : y1 + y2 = 0 := (mz g (sq0 g hX)).resolve_left hc
    have g2 : y2 - y1 = 0 := (mz g (sq0 g ((mz g hZ).resolve_left hu0))).resolve_left hc
    have g3 : y1 = 0 := by
      have : 2 * y1 = 0 := by clear hl hm hu0 a1 a2 hnz hu2 ha hb hc i2 main hX hZ; grobner
      exact (mz g this).resolve_left (two_ne g)
    have g4 : y2 = 0 := by clear hl hm hu0 a1 a2 hnz hu2 ha hb hc i2 main hX hZ; grobner
    subst g3 g4
    have hs : (x1 - x2) * (x1 + x2) = 0 := by clear hl hm hu0 a1 a2 hnz hu2 hc i2 main hX hZ g1 g2; grobner
    rcases mz g hs with h | h
    · apply hnz
      clear hl hm hu0 a1 a2 hnz hu2 hc i2 main hX hZ g1 g2 hs
      grobner
    · apply hu0
      have : u * 2 = 0 := by clear hl hm hu0 a1 a2 hnz hc i2 main hX hZ g1 g2 hs; grobner
      exact (mz g this).resolve_right (two_ne g)
end
end Go.Proofs.Ytncplefjokbbjaa
/- Multiples of a point, and how the ladder comes to a point's u. No program in it. -/
namespace Go.Proofs.Ytncplefjokbbjaa
section
variable {n : Nat} [NeZero n] {iv : Fin n → Fin n} {d i k hf : Fin n}
def smul (iv : Fin n → Fin n) (d : Fin n) : Nat → Pt n → Pt n
  | 0, _ => zero
  | m + 1, p => add iv d (smul iv d m p) p
theorem on_smul (g : Good iv d i k hf) {p : Pt n} (hp : On d p) : ∀ m, On d (smul iv d m p)
  | 0 => on_zero d
  | m + 1 => on_add g (on_smul g hp m) hp
theorem smul_add (g : Good iv d i k hf) {p : Pt n} (hp : On d p) (a : Nat) : ∀ b, smul iv d (a + b) p = add iv d (smul iv d a p) (smul iv d b p)
  | 0 => (add_zero g _).symm
  | b + 1 => by
    show add iv d (smul iv d (a + b) p) p = add iv d (smul iv d a p) (add iv d (smul iv d b p) p)
    rw [smul_add g hp a b, add_assoc g (on_smul g hp a) (on_smul g hp b) hp]
theorem smul_mul (g : Good iv d i k hf) {p : Pt n} (hp : On d p) (b : Nat) : ∀ a, smul iv d (a * b) p = smul iv d a (smul iv d b p)
  | 0 => by rw [Nat.zero_mul]; rfl
  | a + 1 => by rw [Nat.succ_mul, smul_add g hp, smul_mul g hp b a]; rfl
theorem smul_zero (g : Good iv d i k hf) : ∀ m, smul iv d m (zero : Pt n) = zero
  | 0 => rfl
  | m + 1 => by show add iv d (smul iv d m zero) zero = zero; rw [smul_zero g m, add_zero g]
theorem smul_diff (g : Good iv d i k hf) {p : Pt n} (hp : On d p) (m : Nat) : add iv d (smul iv d (m + 1) p) (neg (smul iv d m p)) = p := by
  show add iv d (add iv d (smul iv d m p) p) (neg (smul iv d m p)) = p
  have hs := on_smul g hp m
  rw [add_comm iv d (smul iv d m p) p, add_assoc g hp hs (on_neg hs), add_neg g hs, add_zero g]
abbrev Sf (n : Nat) := Fin n × Fin n × Fin n × Fin n
def fstep (k u : Fin n) (b : Bool) (s : Sf n) : Sf n :=
  if b then (sumX s.1 s.2.1 s.2.2.1 s.2.2.2, sumZ u s.1 s.2.1 s.2.2.1 s.2.2.2, dblX s.2.2.1 s.2.2.2, dblZ k s.2.2.1 s.2.2.2)
  else (dblX s.1 s.2.1, dblZ k s.1 s.2.1, sumX s.1 s.2.1 s.2.2.1 s.2.2.2, sumZ u s.1 s.2.1 s.2.2.1 s.2.2.2)
def flad (k u : Fin n) (s : Nat) : Nat → Sf n
  | 0 => (1, 0, u, 1)
  | t + 1 => fstep k u (s.testBit (254 - t)) (flad k u s t)
theorem half_bit (s j : Nat) : s / 2 ^ j = 2 * (s / 2 ^ (j + 1)) + (if s.testBit j then 1 else 0) := by
  rw [Nat.testBit_eq_decide_div_mod_eq, Nat.pow_succ, ← Nat.div_div_eq_div_mul]
  by_cases h : s / 2 ^ j % 2 = 1
  · simp [h]; omega
  · simp [h]; omega
/-- the ladder's pair is a multiple of the point and the next one -/
theorem flad_rep (g : Good iv d i k hf) {p : Pt n} (hp : On d p) {u : Fin n} (hu : Rep u 1 p) (hu0 : u ≠ 0) (s : Nat) (hs : s < 2 ^ 255) : ∀ t, t ≤ 255 →
    Rep (flad k u s t).1 (flad k u s t).2.1 (smul iv d (s / 2 ^ (255 - t)) p) ∧ Rep (flad k u s t).2.2.1 (flad k u s t).2.2.2 (smul iv d (s / 2 ^ (255 - t) + 1) p)
  | 0, _ => by
    rw [Nat.sub_zero, Nat.div_eq_of_lt hs]
    refine ⟨⟨?_, fun h => g.one h.1⟩, ?_⟩
    · show (1 : Fin n) * (1 - 1) = 0 * (1 + 1); grobner
    · show Rep u 1 (add iv d zero p)
      rw [zero_add g]; exact hu
  | t + 1, ht => by
    obtain ⟨h1, h2⟩ := flad_rep g hp hu hu0 s hs t (by omega)
    have e : 255 - t = 254 - t + 1 := by omega
    have e2 : 255 - (t + 1) = 254 - t := by omega
    rw [e2, half_bit s (254 - t), ← e]
    generalize s / 2 ^ (255 - t) = m at *
    have ha := on_smul g hp m
    have hb := on_smul g hp (m + 1)
    have hd : Rep u 1 (add iv d (smul iv d (m + 1) p) (neg (smul iv d m p))) := by rw [smul_diff g hp]; exact hu
    have hsum := rep_sum g ha hb h1 h2 hd hu0
    rw [← smul_add g hp, show m + (m + 1) = 2 * m + 1 by omega] at hsum
    have hda := rep_dbl g ha h1
    rw [← smul_add g hp, show m + m = 2 * m by omega] at hda
    have hdb := rep_dbl g hb h2
    rw [← smul_add g hp, show m + 1 + (m + 1) = 2 * m + 1 + 1 by omega] at hdb
    rw [flad]
    cases s.testBit (254 - t) with
    | true => exact ⟨hsum, hdb⟩
    | false => exact ⟨hda, hsum⟩
end
end Go.Proofs.Ytncplefjokbbjaa
/- Fermat's little theorem, and that 2 to the 255 less 19 is a prime (certificates after Pocklington), from nothing. -/
namespace Go.Proofs.Ytncplefjokbbjaa
def Prm (n : Nat) : Prop := 2 ≤ n ∧ ∀ d, d ∣ n → d = 1 ∨ d = n
theorem cop_of_prm {p a : Nat} (hp : Prm p) (h : ¬ p ∣ a) : Nat.Coprime p a := by
  rcases hp.2 (Nat.gcd p a) (Nat.gcd_dvd_left p a) with e | e
  · exact e
  · exact absurd (e ▸ Nat.gcd_dvd_right p a) h
theorem prm_mul {p a b : Nat} (hp : Prm p) (h : p ∣ a * b) : p ∣ a ∨ p ∣ b := by
  by_cases ha : p ∣ a
  · exact .inl ha
  · exact .inr ((cop_of_prm hp ha).dvd_of_dvd_mul_left h)
/-- the least number above nought with a property -/
theorem least (P : Nat → Prop) : ∀ n, 0 < n → P n → ∃ d, 0 < d ∧ P d ∧ ∀ m, 0 < m → P m → d ≤ m := by
  intro n
  induction n using Nat.strongRecOn with
  | ind n ih =>
    intro h0 hn
    by_cases h : ∃ m, m < n ∧ 0 < m ∧ P m
    · obtain ⟨m, hm, h1, h2⟩ := h
      exact ih m hm h1 h2
    · exact ⟨n, h0, hn, fun m h1 h2 => Nat.le_of_not_lt fun h3 => h ⟨m, h3, h1, h2⟩⟩
theorem has_prm (n : Nat) (hn : 2 ≤ n) : ∃ r, Prm r ∧ r ∣ n := by
  obtain ⟨d, _, ⟨h2, hd⟩, hmin⟩ := least (fun d => 2 ≤ d ∧ d ∣ n) n (by omega) ⟨hn, Nat.dvd_refl n⟩
  refine ⟨d, ⟨h2, fun e he => ?_⟩, hd⟩
  have hpos : 0 < e := Nat.pos_of_dvd_of_pos he (by omega)
  have hle : e ≤ d := Nat.le_of_dvd (by omega) he
  by_cases h1 : e = 1
  · exact .inl h1
  · have := hmin e hpos ⟨by omega, Nat.dvd_trans he hd⟩
    exact .inr (by omega)
def prodL : List Nat → Nat
  | [] => 1
  | a :: l => a * prodL l
theorem prodL_perm {l m : List Nat} (h : l.Perm m) : prodL l = prodL m := by
  induction h with
  | nil => rfl
  | cons x _ ih => simp only [prodL, ih]
  | swap x y l => simp only [prodL]; rw [← Nat.mul_assoc, Nat.mul_comm y x, Nat.mul_assoc]
  | trans _ _ h1 h2 => exact h1.trans h2
theorem perm_of {l : List Nat} : ∀ {m : List Nat}, l.Nodup → (∀ x ∈ l, x ∈ m) → m.length ≤ l.length → l.Perm m := by
  induction l with
  | nil =>
    intro m _ _ h
    have : m = [] := List.eq_nil_of_length_eq_zero (by simpa using h)
    rw [this]
  | cons x l ih =>
    intro m hn hs hl
    have hx : x ∈ m := hs x (List.mem_cons_self ..)
    have hp := List.perm_cons_erase hx
    obtain ⟨hxl, hnl⟩ := List.nodup_cons.1 hn
    refine (List.Perm.cons x (ih hnl (fun y hy => ?_) ?_)).trans hp.symm
    · exact (List.mem_erase_of_ne (a := y) (b := x) (fun e : y = x => hxl (e ▸ hy))).2 (hs y (List.mem_cons_of_mem _ hy))
    · rw [List.length_erase_of_mem hx]; simp only [List.length_cons] at hl; omega
theorem prodL_map (a p : Nat) : ∀ l : List Nat, prodL (l.map fun x => a * x % p) % p = a ^ l.length * prodL l % p
  | [] => by simp [prodL]
  | x :: l => by
    simp only [List.map_cons, prodL, List.length_cons]
    rw [Nat.mul_mod, Nat.mod_mod, prodL_map a p l, ← Nat.mul_mod, Nat.pow_succ]
    congr 1
    rw [Nat.mul_comm (a ^ l.length) a, Nat.mul_assoc, Nat.mul_assoc, Nat.mul_left_comm x]
theorem prodL_cop {p : Nat} (hp : Prm p) : ∀ l : List Nat, (∀ x ∈ l, ¬ p ∣ x) → Nat.Coprime p (prodL l)
  | [], _ => Nat.coprime_one_right p
  | x :: l, h => Nat.Coprime.mul_right (cop_of_prm hp (h x (List.mem_cons_self ..))) (prodL_cop hp l fun y hy => h y (List.mem_cons_of_mem _ hy))
theorem cancel {p x P : Nat} (hp : 2 ≤ p) (hx : 0 < x) (hc : Nat.Coprime p P) (h : x * P % p = P % p) : x % p = 1 := by
  have h1 : p ∣ x * P - P := Nat.dvd_of_mod_eq_zero (Nat.sub_mod_eq_zero_of_mod_eq h)
  have h2 : x * P - P = (x - 1) * P := by rw [Nat.sub_mul, Nat.one_mul]
  rw [h2] at h1
  obtain ⟨k, hk⟩ := hc.dvd_of_dvd_mul_right h1
  have : x = p * k + 1 := by omega
  rw [this, Nat.mul_add_mod, Nat.mod_eq_of_lt (by omega)]
theorem nodup_map {l : List Nat} {f : Nat → Nat} (hn : l.Nodup) (hf : ∀ x ∈ l, ∀ y ∈ l, f x = f y → x = y) : (l.map f).Nodup := by
  induction l with
  | nil => simp
  | cons x l ih =>
    obtain ⟨hx, hl⟩ := List.nodup_cons.1 hn
    rw [List.map_cons, List.nodup_cons]
    refine ⟨fun hm => ?_, ih hl fun a ha b hb => hf a (List.mem_cons_of_mem _ ha) b (List.mem_cons_of_mem _ hb)⟩
    obtain ⟨y, hy, e⟩ := List.mem_map.1 hm
    exact hx (hf y (List.mem_cons_of_mem _ hy) x (List.mem_cons_self ..) e ▸ hy)
/-- Fermat's little theorem -/
theorem fermat {p a : Nat} (hp : Prm p) (ha : ¬ p ∣ a) : a ^ (p - 1) % p = 1 := by
  have h2 := hp.1
  have hmem : ∀ x ∈ List.range' 1 (p - 1), 1 ≤ x ∧ x < p := fun x hx => by
    rw [List.mem_range'_1] at hx; omega
  have hnd : ∀ x ∈ List.range' 1 (p - 1), ¬ p ∣ x := fun x hx hd => by
    have := hmem x hx
    have := Nat.le_of_dvd (by omega) hd
    omega
  have hperm : ((List.range' 1 (p - 1)).map fun x => a * x % p).Perm (List.range' 1 (p - 1)) := by
    refine perm_of (nodup_map List.nodup_range' ?_) ?_ (by simp)
    · have key : ∀ x y, x ≤ y → y < p → a * x % p = a * y % p → x = y := fun x y hxy hy e => by
        have h1 : p ∣ a * y - a * x := Nat.dvd_of_mod_eq_zero (Nat.sub_mod_eq_zero_of_mod_eq e.symm)
        rw [← Nat.mul_sub] at h1
        rcases prm_mul hp h1 with h | h
        · exact absurd h ha
        · rcases Nat.eq_zero_or_pos (y - x) with h0 | h0
          · omega
          · have := Nat.le_of_dvd h0 h; omega
      intro x hx y hy e
      have hx' := hmem x hx
      have hy' := hmem y hy
      rcases Nat.le_total x y with h | h
      · exact key x y h hy'.2 e
      · exact (key y x h hx'.2 e.symm).symm
    · intro z hz
      obtain ⟨x, hx, rfl⟩ := List.mem_map.1 hz
      rw [List.mem_range'_1]
      have hlt : a * x % p < p := Nat.mod_lt _ (by omega)
      have hne : a * x % p ≠ 0 := fun e => by
        rcases prm_mul hp (Nat.dvd_of_mod_eq_zero e) with h | h
        · exact ha h
        · exact hnd x hx h
      omega
  have h3 := prodL_map a p (List.range' 1 (p - 1))
  rw [prodL_perm hperm, List.length_range'] at h3
  have hpos : 0 < a := Nat.pos_of_ne_zero fun e => ha (e ▸ Nat.dvd_zero p)
  exact cancel h2 (Nat.pow_pos hpos) (prodL_cop hp _ hnd) h3.symm
theorem pow_cycle {r b d : Nat} (hd : b ^ d % r = 1) (hr : 2 ≤ r) (n : Nat) : b ^ n % r = b ^ (n % d) % r := by
  have h1 : ∀ k, b ^ (d * k) % r = 1 := fun k => by
    induction k with
    | zero => rw [Nat.mul_zero, Nat.pow_zero, Nat.mod_eq_of_lt (by omega)]
    | succ k ih => rw [Nat.mul_succ, Nat.pow_add, Nat.mul_mod, ih, hd, Nat.mul_one, Nat.mod_eq_of_lt (by omega)]
  rw [← Nat.div_add_mod n d, Nat.pow_add, Nat.mul_mod, h1, Nat.one_mul, Nat.mod_mod, Nat.mul_add_mod, Nat.mod_mod]
/-- one prime of the certificate -/
theorem cert_one {N B q r : Nat} (hq : Prm q) (hB : B ^ q % N = 1) (hg : Nat.gcd (B - 1) N = 1) (hr : Prm r) (hrN : r ∣ N) : q ∣ r - 1 := by
  have h2 := hr.1
  have hBr : B ^ q % r = 1 := by
    have : B ^ q % N % r = B ^ q % r := Nat.mod_mod_of_dvd _ hrN
    rw [← this, hB, Nat.mod_eq_of_lt (by omega)]
  have hne : B % r ≠ 1 := fun e => by
    have h3 : r ∣ B - 1 := by
      have h4 : B % r = 1 % r := by rw [e, Nat.mod_eq_of_lt (by omega)]
      exact Nat.dvd_of_mod_eq_zero (Nat.sub_mod_eq_zero_of_mod_eq h4)
    have h5 : r ∣ 1 := hg ▸ Nat.dvd_gcd h3 hrN
    have := Nat.le_of_dvd (by omega) h5
    omega
  have hnd : ¬ r ∣ B := fun h => by
    have : r ∣ B ^ q := by
      have hq0 : q ≠ 0 := by have := hq.1; omega
      obtain ⟨k, rfl⟩ : ∃ k, q = k + 1 := ⟨q - 1, by omega⟩
      rw [Nat.pow_succ]; exact Nat.dvd_trans h (Nat.dvd_mul_left _ _)
    rw [Nat.mod_eq_zero_of_dvd this] at hBr
    omega
  have hf := fermat hr hnd
  obtain ⟨d, hd0, hd1, hmin⟩ := least (fun d => B ^ d % r = 1) q (by have := hq.1; omega) hBr
  have hdiv : ∀ n, B ^ n % r = 1 → d ∣ n := fun n hn => by
    rw [pow_cycle hd1 h2 n] at hn
    rcases Nat.eq_zero_or_pos (n % d) with h0 | h0
    · exact Nat.dvd_of_mod_eq_zero h0
    · have := hmin _ h0 hn
      have := Nat.mod_lt n hd0
      omega
  rcases hq.2 d (hdiv q hBr) with e | e
  · rw [e, Nat.pow_one] at hd1; exact absurd hd1 hne
  · rw [← e]; exact hdiv _ hf
theorem prm_of {N F : Nat} (hN : 2 ≤ N) (hF : ∀ r, Prm r → r ∣ N → F ∣ r - 1) (hb : N < (F + 1) * (F + 1)) : Prm N := by
  refine ⟨hN, fun d hd => ?_⟩
  by_cases h1 : d = 1
  · exact .inl h1
  · obtain ⟨e, he⟩ := hd
    by_cases he1 : e = 1
    · exact .inr (by rw [he, he1, Nat.mul_one])
    · exfalso
      have hd0 : d ≠ 0 := fun h => by rw [h, Nat.zero_mul] at he; omega
      have he0 : e ≠ 0 := fun h => by rw [h, Nat.mul_zero] at he; omega
      obtain ⟨r, hr, hrd⟩ := has_prm d (by omega)
      obtain ⟨s, hs, hse⟩ := has_prm e (by omega)
      have hr1 := Nat.le_of_dvd (by have := hr.1; omega) (hF r hr (Nat.dvd_trans hrd ⟨e, he⟩))
      have hs1 := Nat.le_of_dvd (by have := hs.1; omega) (hF s hs (Nat.dvd_trans hse ⟨d, by rw [he, Nat.mul_comm]⟩))
      have hrd' := Nat.le_of_dvd (by omega) hrd
      have hse' := Nat.le_of_dvd (by omega) hse
      have := Nat.mul_le_mul (show F + 1 ≤ d by omega) (show F + 1 ≤ e by omega)
      omega
def pmGo : Nat → Nat → Nat → Nat → Nat
  | 0, _, _, n => 1 % n
  | f + 1, b, e, n => if e = 0 then 1 % n else if e % 2 = 1 then b * pmGo f (b * b % n) (e / 2) n % n else pmGo f (b * b % n) (e / 2) n
theorem pmGo_eq : ∀ f b e n, e < 2 ^ f → pmGo f b e n = b ^ e % n
  | 0, b, e, n, h => by
    have : e = 0 := by simpa using h
    rw [this, pmGo, Nat.pow_zero]
  | f + 1, b, e, n, h => by
    have hpow : (b * b % n) ^ (e / 2) % n = b ^ (2 * (e / 2)) % n := by rw [← Nat.pow_mod, ← Nat.pow_two, ← Nat.pow_mul]
    rw [pmGo]
    split
    · rename_i h0; rw [h0, Nat.pow_zero]
    · split
      · rename_i h1
        rw [pmGo_eq f _ _ n (by rw [Nat.pow_succ] at h; omega), hpow, Nat.mul_mod_mod]
        congr 1
        have : e = 2 * (e / 2) + 1 := by omega
        conv => rhs; rw [this, Nat.pow_succ, Nat.mul_comm]
      · rename_i h1
        rw [pmGo_eq f _ _ n (by rw [Nat.pow_succ] at h; omega), hpow]
        congr 2
        omega
theorem small_prm (n m : Nat) (hn : 2 ≤ n) (hm : n < m * m) (h : ((List.range m).all fun d => decide (d < 2) || decide (n % d ≠ 0)) = true) : Prm n := by
  have hall : ∀ d, 2 ≤ d → d < m → ¬ d ∣ n := fun d h2 hd hdn => by
    have := List.all_eq_true.1 h d (List.mem_range.2 hd)
    simp only [Bool.or_eq_true, decide_eq_true_eq] at this
    rcases this with h | h
    · omega
    · exact h (Nat.mod_eq_zero_of_dvd hdn)
  refine ⟨hn, fun d hd => ?_⟩
  by_cases h1 : d = 1
  · exact .inl h1
  · obtain ⟨e, he⟩ := hd
    by_cases he1 : e = 1
    · exact .inr (by rw [he, he1, Nat.mul_one])
    · exfalso
      have hd0 : d ≠ 0 := fun h => by rw [h, Nat.zero_mul] at he; omega
      have he0 : e ≠ 0 := fun h => by rw [h, Nat.mul_zero] at he; omega
      have hdm : m ≤ d := Nat.le_of_not_lt fun h => hall d (by omega) h ⟨e, he⟩
      have hem : m ≤ e := Nat.le_of_not_lt fun h => hall e (by omega) h ⟨d, by rw [he, Nat.mul_comm]⟩
      have := Nat.mul_le_mul hdm hem
      omega
theorem mul_dvd {a b n : Nat} (hc : Nat.Coprime a b) (ha : a ∣ n) (hb : b ∣ n) : a * b ∣ n := Nat.Coprime.mul_dvd_of_dvd_of_dvd hc ha hb
theorem by_two {N F q1 q2 B1 B2 : Nat} (hN : 2 ≤ N) (h1 : Prm q1) (h2 : Prm q2) (hc : Nat.gcd q1 q2 = 1) (hF : F = q1 * q2)
    (e1 : pmGo 256 B1 q1 N = 1) (l1 : q1 < 2 ^ 256) (g1 : Nat.gcd (B1 - 1) N = 1) (e2 : pmGo 256 B2 q2 N = 1) (l2 : q2 < 2 ^ 256) (g2 : Nat.gcd (B2 - 1) N = 1) (hb : N < (F + 1) * (F + 1)) : Prm N := by
  refine prm_of hN (fun r hr hrN => ?_) hb
  rw [hF]
  exact mul_dvd hc (cert_one h1 (by rw [← pmGo_eq 256 _ _ _ l1]; exact e1) g1 hr hrN) (cert_one h2 (by rw [← pmGo_eq 256 _ _ _ l2]; exact e2) g2 hr hrN)
theorem prm_a : Prm 8574133 := small_prm 8574133 2930 (by decide) (by decide) (by decide +kernel)
theorem prm_b : Prm 127 := small_prm 127 12 (by decide) (by decide) (by decide +kernel)
theorem prm_c : Prm 75707 := small_prm 75707 276 (by decide) (by decide) (by decide +kernel)
theorem prm_d : Prm 132049 := small_prm 132049 364 (by decide) (by decide) (by decide +kernel)
theorem prm_e : Prm 1919519569386763 := by_two (F := 8574133 * 127) (B1 := 1059928654987441) (B2 := 576774792492622) (by decide) prm_a prm_b (by decide +kernel) rfl (by decide +kernel) (by decide +kernel) (by decide +kernel) (by decide +kernel) (by decide +kernel) (by decide +kernel) (by decide +kernel)
theorem prm_f : Prm 75445702479781427272750846543864801 := by_two (F := 1919519569386763 * 75707) (B1 := 56747016255153332959347766392083459) (B2 := 58781699294900834553279248901967638) (by decide +kernel) prm_e prm_c (by decide +kernel) rfl (by decide +kernel) (by decide +kernel) (by decide +kernel) (by decide +kernel) (by decide +kernel) (by decide +kernel) (by decide +kernel)
theorem prm_g : Prm 74058212732561358302231226437062788676166966415465897661863160754340907 := by_two (F := 75445702479781427272750846543864801 * 132049) (B1 := 69490809710348678725736597923071784769591275419387514694139338586948360) (B2 := 54871647690314810166557542068595163151590274869528630571075996285882505) (by decide +kernel) prm_f prm_d (by decide +kernel) rfl (by decide +kernel) (by decide +kernel) (by decide +kernel) (by decide +kernel) (by decide +kernel) (by decide +kernel) (by decide +kernel)
theorem by_one {N q B : Nat} (hN : 2 ≤ N) (h1 : Prm q) (e1 : pmGo 256 B q N = 1) (l1 : q < 2 ^ 256) (g1 : Nat.gcd (B - 1) N = 1) (hb : N < (q + 1) * (q + 1)) : Prm N :=
  prm_of hN (fun _ hr hrN => cert_one h1 (by rw [← pmGo_eq 256 _ _ _ l1]; exact e1) g1 hr hrN) hb
/-- 2 to the 255 less 19 is a prime -/
theorem prm_p : Prm 57896044618658097711785492504343953926634992332820282019728792003956564819949 :=
  by_one (B := 427094198651976259540344842774561673889945192655078505504941250475370961481) (by decide +kernel) prm_g (by decide +kernel) (by decide +kernel) (by decide +kernel) (by decide +kernel)
#print axioms prm_p
end Go.Proofs.Ytncplefjokbbjaa
/- The curve's points over the prime of the field: all that the group wants holds there. No program in it. -/
namespace Go.Proofs.Ytncplefjokbbjaa
abbrev PP : Nat := 57896044618658097711785492504343953926634992332820282019728792003956564819949
/-- a number modulo the prime -/
def cs (a : Int) : Fin PP := ⟨(a % (PP : Int)).toNat, by have := Int.emod_lt_of_pos a (show (0 : Int) < (PP : Int) by decide); have := Int.emod_nonneg a (show (PP : Int) ≠ 0 by decide); omega⟩
theorem cs_val (a : Int) : ((cs a).val : Int) = a % (PP : Int) := Int.toNat_of_nonneg (Int.emod_nonneg a (by decide))
theorem cs_eq {a b : Int} : cs a = cs b ↔ a % (PP : Int) = b % (PP : Int) := by
  constructor
  · intro h; rw [← cs_val, ← cs_val, h]
  · intro h; apply Fin.ext; have := (cs_val a).trans (h.trans (cs_val b).symm); exact_mod_cast this
theorem cs_of (x : Fin PP) : cs (x.val : Int) = x := by
  apply Fin.ext
  have h := cs_val (x.val : Int)
  rw [Int.emod_eq_of_lt (by omega) (by have := x.isLt; omega)] at h
  exact_mod_cast h
theorem cs_add (a b : Int) : cs (a + b) = cs a + cs b := by
  apply Fin.ext
  have h : ((cs (a + b)).val : Int) = (((cs a + cs b : Fin PP).val : Nat) : Int) := by
    rw [cs_val, Fin.val_add, Int.natCast_emod, Int.natCast_add, cs_val, cs_val, ← Int.add_emod]
  exact_mod_cast h
theorem cs_mul (a b : Int) : cs (a * b) = cs a * cs b := by
  apply Fin.ext
  have h : ((cs (a * b)).val : Int) = (((cs a * cs b : Fin PP).val : Nat) : Int) := by
    rw [cs_val, Fin.val_mul, Int.natCast_emod, Int.natCast_mul, cs_val, cs_val, ← Int.mul_emod]
  exact_mod_cast h
theorem cs_sub (a b : Int) : cs (a - b) = cs a - cs b := by
  have h : cs (a - b) + cs b = cs a := by rw [← cs_add]; congr 1; omega
  have : cs (a - b) = cs (a - b) + cs b - cs b := by grobner
  rw [this, h]
def ivP (a : Fin PP) : Fin PP := cs ((a.val : Int) ^ (PP - 2))
theorem iv_mul (a : Fin PP) (h : a ≠ 0) : a * ivP a = 1 := by
  have hv : ¬ PP ∣ a.val := fun hd => by
    apply h
    apply Fin.ext
    have := a.isLt
    rcases Nat.eq_zero_or_pos a.val with h0 | h0
    · exact h0
    · have := Nat.le_of_dvd h0 hd; omega
  have hf : a.val ^ (PP - 1) % PP = 1 := fermat prm_p hv
  unfold ivP
  rw [show a * cs ((a.val : Int) ^ (PP - 2)) = cs (a.val : Int) * cs ((a.val : Int) ^ (PP - 2)) by rw [cs_of], ← cs_mul, Int.mul_comm, ← Int.pow_succ, show (PP - 2).succ = PP - 1 from rfl]
  apply Fin.ext
  have e : ((cs ((a.val : Int) ^ (PP - 1))).val : Int) = 1 := by
    rw [cs_val]
    have h2 := congrArg (fun x : Nat => (x : Int)) hf
    simp only [Int.natCast_emod, Int.natCast_pow] at h2
    exact h2
  exact_mod_cast e
def dP : Fin PP := ⟨37095705934669439343138083508754565189542113879843219016388785533085940283555, by decide⟩
def iP : Fin PP := ⟨19681161376707505956807079304988542015446066515923890162744021073123829784752, by decide⟩
def kP : Fin PP := ⟨121665, by decide⟩
def hP : Fin PP := ⟨28948022309329048855892746252171976963317496166410141009864396001978282409975, by decide⟩
theorem dP_non (z : Fin PP) : z * z ≠ dP := fun h => by
  have hz : ¬ PP ∣ z.val := fun hd => by
    have h0 : z = 0 := by
      apply Fin.ext
      have := z.isLt
      rcases Nat.eq_zero_or_pos z.val with h0 | h0
      · exact h0
      · have := Nat.le_of_dvd h0 hd; omega
    rw [h0] at h
    exact absurd h (by decide +kernel)
  have hf : z.val ^ (PP - 1) % PP = 1 := fermat prm_p hz
  have hv : z.val * z.val % PP = 37095705934669439343138083508754565189542113879843219016388785533085940283555 := congrArg Fin.val h
  obtain ⟨E, hE, hE2, hE3⟩ : ∃ E, PP - 1 = 2 * E ∧ E < 2 ^ 256 ∧ pmGo 256 37095705934669439343138083508754565189542113879843219016388785533085940283555 E PP ≠ 1 := ⟨28948022309329048855892746252171976963317496166410141009864396001978282409974, by decide +kernel, by decide +kernel, by decide +kernel⟩
  rw [hE] at hf
  have e1 : (z.val * z.val) ^ E % PP = 1 := by
    rw [← Nat.pow_two, ← Nat.pow_mul]; exact hf
  rw [Nat.pow_mod, hv, ← pmGo_eq 256 _ _ _ hE2] at e1
  exact hE3 e1
theorem goodP : Good ivP dP iP kP hP where
  inv := iv_mul
  one := by decide +kernel
  two := by decide +kernel
  neg := by decide +kernel
  non := dP_non
  fac := by decide +kernel
  k1 := by decide +kernel
/-- the base point -/
def baseP : Pt PP := ⟨⟨15112221349535400772501151409588531511454012693041857206046113283949847762202, by decide⟩, ⟨46316835694926478169428394003475163141307993866256225615783033603165251855960, by decide⟩⟩
theorem base_on : On dP baseP := by unfold On; decide +kernel
theorem base_rep : Rep (9 : Fin PP) 1 baseP := ⟨by decide +kernel, by decide +kernel⟩
theorem prl_a : Prm 1224481 := small_prm 1224481 1108 (by decide) (by decide) (by decide +kernel)
theorem prl_b : Prm 531581 := small_prm 531581 731 (by decide) (by decide) (by decide +kernel)
theorem prl_c : Prm 1257559732178653 := by_two (F := 1224481 * 531581) (B1 := 344036447068848) (B2 := 720809604736772) (by decide +kernel) prl_a prl_b (by decide +kernel) rfl (by decide +kernel) (by decide +kernel) (by decide +kernel) (by decide +kernel) (by decide +kernel) (by decide +kernel) (by decide +kernel)
theorem prl_d : Prm 4434155615661930479 := by_one (B := 3601345856999813982) (by decide +kernel) prl_c (by decide +kernel) (by decide +kernel) (by decide +kernel) (by decide +kernel)
theorem prl_e : Prm 172054593956031949258510691 := by_one (B := 171683060957287226263701407) (by decide +kernel) prl_d (by decide +kernel) (by decide +kernel) (by decide +kernel) (by decide +kernel)
theorem prl_f : Prm 19757330305831588566944191468367130476339 := by_one (B := 2931199269935359941941607238808400453089) (by decide +kernel) prl_e (by decide +kernel) (by decide +kernel) (by decide +kernel) (by decide +kernel)
theorem prl_g : Prm 276602624281642239937218680557139826668747 := by_one (B := 213479481710615819477363948728275917285666) (by decide +kernel) prl_f (by decide +kernel) (by decide +kernel) (by decide +kernel) (by decide +kernel)
theorem prm_l : Prm 7237005577332262213973186563042994240857116359379907606001950938285454250989 := by_one (B := 1534292072962803261762903104097270607298105506814903832403324367243757167776) (by decide +kernel) prl_g (by decide +kernel) (by decide +kernel) (by decide +kernel) (by decide +kernel)
end Go.Proofs.Ytncplefjokbbjaa
/- The base point's order, and what follows for its multiples. No program in it. -/
namespace Go.Proofs.Ytncplefjokbbjaa
def ell : Nat := 7237005577332262213973186563042994240857116359379907606001950938285454250989
set_option maxRecDepth 100000 in
theorem ell_zero : (flad kP 9 ell 255).2.1 = 0 := by decide +kernel
theorem d1 : (1 : Fin PP) + dP ≠ 0 := by decide +kernel
theorem nine_ne : (9 : Fin PP) ≠ 0 := by decide +kernel
/-- a point whose y is 1 or -1 has no x -/
theorem x_zero {p : Pt PP} (hp : On dP p) (hy : p.y * p.y = 1) : p.x = 0 := by
  unfold On at hp
  have h : p.x * p.x * (1 + dP) = 0 := by
    generalize p.x = x at *
    generalize p.y = y at *
    grobner
  exact sq0 goodP ((mz goodP h).resolve_right d1)
theorem y_one {p : Pt PP} (hp : On dP p) (hy : p.y = 1) : p = zero := pt_ext (x_zero hp (by rw [hy]; decide +kernel)) hy
theorem rep_z0 {X : Fin PP} {p : Pt PP} (hp : On dP p) (h : Rep X 0 p) : p = zero := by
  apply y_one hp
  obtain ⟨h1, h2⟩ := h
  have hX : X ≠ 0 := fun e => h2 ⟨e, rfl⟩
  have h3 : X * (1 - p.y) = 0 := by rw [h1]; grobner
  have h4 := (mz goodP h3).resolve_left hX
  generalize p.y = y at *
  clear h1 h2 h3 hX
  grobner
theorem base_order : smul ivP dP ell baseP = zero := by
  have h := (flad_rep goodP base_on base_rep nine_ne ell (by decide +kernel) 255 (Nat.le_refl _)).1
  rw [ell_zero, Nat.sub_self, Nat.pow_zero, Nat.div_one] at h
  exact rep_z0 (on_smul goodP base_on _) h
theorem base_ne : baseP ≠ zero := fun h => absurd (congrArg Pt.y h) (by decide +kernel)
theorem not_zero {m : Nat} (hm : ¬ ell ∣ m) : smul ivP dP m baseP ≠ zero := fun h => by
  have hf : m ^ (ell - 1) % ell = 1 := fermat prm_l hm
  have e1 : smul ivP dP (m ^ (ell - 1)) baseP = zero := by
    obtain ⟨e, he⟩ : ∃ e, ell - 1 = e + 1 := ⟨ell - 2, by decide +kernel⟩
    rw [he, Nat.pow_succ, smul_mul goodP base_on, h, smul_zero goodP]
  have e2 : smul ivP dP (m ^ (ell - 1)) baseP = baseP := by
    generalize m ^ (ell - 1) = M at *
    have hM : M = M / ell * ell + 1 := by
      have := Nat.div_add_mod M ell
      rw [hf, Nat.mul_comm] at this
      exact this.symm
    rw [hM, smul_add goodP base_on, smul_mul goodP base_on, base_order, smul_zero goodP]
    show add ivP dP zero (add ivP dP zero baseP) = baseP
    rw [zero_add goodP, zero_add goodP]
  exact base_ne (e2.symm.trans e1)
/-- two numbers that are a point's u are one -/
theorem rep_one {u v : Fin PP} {p : Pt PP} (h : Rep u 1 p) (g : Rep v 1 p) : u = v := by
  have h1 := h.1
  have g1 := g.1
  have hy : 1 - p.y ≠ 0 := fun e => by
    rw [e] at h1
    have h2 : p.y = 1 := by
      generalize p.y = y at *
      clear h1 g1 h g
      grobner
    rw [h2] at h1
    have : (2 : Fin PP) = 0 := by clear g1 h g e h2; grobner
    exact two_ne goodP this
  apply can goodP hy
  generalize p.y = y at *
  clear hy h g
  grobner
theorem rep_div {X Z : Fin PP} {p : Pt PP} (hp : On dP p) (h : Rep X Z p) (hn : p ≠ zero) : Rep (X * ivP Z) 1 p := by
  have hZ : Z ≠ 0 := fun e => hn (rep_z0 hp (e ▸ h))
  have hi := iv_mul Z hZ
  refine ⟨?_, fun e => goodP.one e.2⟩
  have h1 := h.1
  generalize ivP Z = Z' at *
  generalize p.y = y at *
  clear hn hZ h
  grobner
theorem u_ne {u : Fin PP} {m : Nat} (hm : ¬ ell ∣ m) (h : Rep u 1 (smul ivP dP m baseP)) : u ≠ 0 := fun e => by
  have hp := on_smul goodP base_on m
  have hne : ¬ ell ∣ m + m := fun hd => by
    rcases prm_mul prm_l (show ell ∣ 2 * m by rw [Nat.two_mul]; exact hd) with h2 | h2
    · exact absurd h2 (by decide +kernel)
    · exact hm h2
  apply not_zero hne
  rw [smul_add goodP base_on]
  generalize smul ivP dP m baseP = p at *
  rw [e] at h
  have h1 := h.1
  have hy : p.y = -1 := by
    clear h hne hm e hp
    generalize p.y = y at *
    grobner
  have hx := x_zero hp (by rw [hy]; decide +kernel)
  obtain ⟨x, y⟩ := p
  simp only at hx hy
  subst hx hy
  unfold add zero
  apply pt_ext <;> simp only
  · rw [show (0 : Fin PP) * -1 + 0 * -1 = 0 by grobner]; grobner
  · rw [show (1 : Fin PP) - dP * 0 * 0 * -1 * -1 = 1 by grobner, iv_one goodP]; grobner
/-- the ladder from a multiple's u comes to the multiple's multiple -/
theorem ladder_at {m s : Nat} {u : Fin PP} (hm : ¬ ell ∣ m) (hs : s < 2 ^ 255) (hsm : ¬ ell ∣ s * m) (h : Rep u 1 (smul ivP dP m baseP)) :
    Rep ((flad kP u s 255).1 * ivP (flad kP u s 255).2.1) 1 (smul ivP dP (s * m) baseP) := by
  have h1 := (flad_rep goodP (on_smul goodP base_on m) h (u_ne hm h) s hs 255 (Nat.le_refl _)).1
  rw [Nat.sub_self, Nat.pow_zero, Nat.div_one, ← smul_mul goodP base_on] at h1
  exact rep_div (on_smul goodP base_on _) h1 (not_zero hsm)
end Go.Proofs.Ytncplefjokbbjaa
/- Going up in numbers is going up on the curve: the theorem of Diffie and Hellman for the base point's multiples. No program in it. -/
namespace Go.Proofs.Ytncplefjokbbjaa
def cs4 (s : St) : Sf PP := (cs s.1, cs s.2.1, cs s.2.2.1, cs s.2.2.2)
theorem cs_k : cs 121665 = kP := by decide +kernel
theorem cs_dbX (x z : Int) : cs (dbX x z) = dblX (cs x) (cs z) := by
  unfold dbX dblX; simp only [cs_mul, cs_add, cs_sub]
theorem cs_dbZ (x z : Int) : cs (dbZ x z) = dblZ kP (cs x) (cs z) := by
  unfold dbZ dblZ; simp only [cs_mul, cs_add, cs_sub, cs_k]
theorem cs_smX (x z p q : Int) : cs (smX x z p q) = sumX (cs x) (cs z) (cs p) (cs q) := by
  unfold smX sumX; simp only [cs_mul, cs_add, cs_sub]
theorem cs_smZ (u x z p q : Int) : cs (smZ u x z p q) = sumZ (cs u) (cs x) (cs z) (cs p) (cs q) := by
  unfold smZ sumZ; simp only [cs_mul, cs_add, cs_sub]
theorem cs_step (u : Int) (b : Bool) (s : St) : cs4 (lstep u b s) = fstep kP (cs u) b (cs4 s) := by
  obtain ⟨x, z, p, q⟩ := s
  cases b with
  | true => simp only [cs4, lstep, fstep, if_true, cs_dbX, cs_dbZ, cs_smX, cs_smZ]
  | false => simp only [cs4, lstep, fstep, Bool.false_eq_true, if_false, cs_dbX, cs_dbZ, cs_smX, cs_smZ]
theorem cs_lad (u : Int) (k : Nat) : ∀ t, cs4 (lad u k t) = flad kP (cs u) k t
  | 0 => by
    show (cs 1, cs 0, cs u, cs 1) = ((1 : Fin PP), (0 : Fin PP), cs u, (1 : Fin PP))
    rw [show cs 1 = 1 by decide +kernel, show cs 0 = 0 by decide +kernel]
  | t + 1 => by rw [lad, cs_step, cs_lad u k t, flad]
theorem pow_emod (a : Int) (m : Int) : ∀ e : Nat, (a % m) ^ e % m = a ^ e % m
  | 0 => by rw [Int.pow_zero, Int.pow_zero]
  | e + 1 => by rw [Int.pow_succ, Int.pow_succ, Int.mul_emod, pow_emod a m e, ← Int.mul_emod, Int.mul_emod, Int.emod_emod, ← Int.mul_emod]
theorem cs_pow (a : Int) : cs (a ^ (PP - 2)) = ivP (cs a) := by
  unfold ivP
  rw [cs_val, cs_eq, pow_emod]
theorem cs_up (u : Int) (k : Nat) : cs (up u k) = (flad kP (cs u) k 255).1 * ivP (flad kP (cs u) k 255).2.1 := by
  have h := cs_lad u k 255
  have h1 : cs (lad u k 255).1 = (flad kP (cs u) k 255).1 := congrArg (·.1) h
  have h2 : cs (lad u k 255).2.1 = (flad kP (cs u) k 255).2.1 := congrArg (·.2.1) h
  rw [← h1, ← h2, ← cs_pow, ← cs_mul]
  rfl
/-- the ladder in numbers, from a multiple's u -/
theorem up_rep {m s : Nat} {u : Int} (hm : ¬ ell ∣ m) (hs : s < 2 ^ 255) (hsm : ¬ ell ∣ s * m) (h : Rep (cs u) 1 (smul ivP dP m baseP)) : Rep (cs (up u s)) 1 (smul ivP dP (s * m) baseP) := by
  rw [cs_up]; exact ladder_at hm hs hsm h
/-- what clamping leaves of a scalar -/
def Clamped (s : Nat) : Prop := 2 ^ 254 ≤ s ∧ s < 2 ^ 255 ∧ s % 8 = 0
theorem clamped_not {s : Nat} (h : Clamped s) : ¬ ell ∣ s := fun hd => by
  obtain ⟨h1, h2, h3⟩ := h
  have e : s = 8 * (s / 8) := by omega
  rw [e] at hd
  rcases prm_mul prm_l hd with h4 | h4
  · exact absurd h4 (by decide +kernel)
  · have := Nat.le_of_dvd (by omega) h4
    unfold ell at this
    omega
theorem not_mul {a b : Nat} (ha : ¬ ell ∣ a) (hb : ¬ ell ∣ b) : ¬ ell ∣ a * b := fun h => (prm_mul prm_l h).elim ha hb
theorem one_not : ¬ ell ∣ 1 := by decide +kernel
theorem base_one : Rep (cs 9) 1 (smul ivP dP 1 baseP) := by
  show Rep (cs 9) 1 (add ivP dP zero baseP)
  rw [zero_add goodP, show cs 9 = 9 by decide +kernel]
  exact base_rep
theorem pub_rep {a : Nat} (ha : Clamped a) : Rep (cs (up 9 a)) 1 (smul ivP dP a baseP) := by
  have := up_rep one_not ha.2.1 (by rw [Nat.mul_one]; exact clamped_not ha) base_one
  rwa [Nat.mul_one] at this
/-- both sides come to one number, which is not nought -/
theorem shared_one {a b : Nat} (ha : Clamped a) (hb : Clamped b) {p q : Int} (hp : cs p = cs (up 9 a)) (hq : cs q = cs (up 9 b)) : up q a % (PP : Int) = up p b % (PP : Int) ∧ up q a % (PP : Int) ≠ 0 := by
  have na := clamped_not ha
  have nb := clamped_not hb
  have h1 : Rep (cs (up q a)) 1 (smul ivP dP (a * b) baseP) := up_rep nb ha.2.1 (not_mul na nb) (by rw [hq]; exact pub_rep hb)
  have h2 : Rep (cs (up p b)) 1 (smul ivP dP (a * b) baseP) := by
    rw [Nat.mul_comm]
    exact up_rep na hb.2.1 (not_mul nb na) (by rw [hp]; exact pub_rep ha)
  refine ⟨cs_eq.1 (rep_one h1 h2), fun e => ?_⟩
  apply u_ne (not_mul na nb) h1
  rw [show (0 : Fin PP) = cs 0 by decide +kernel, cs_eq, e]
  rfl
/-- the double of a point, by its u -/
def dblM (u : Int) : Int := dbX u 1 * dbZ u 1 ^ (PP - 2)
theorem dbl_rep {m : Nat} {u : Int} (hm : ¬ ell ∣ m) (h : Rep (cs u) 1 (smul ivP dP m baseP)) : Rep (cs (dblM u)) 1 (smul ivP dP (2 * m) baseP) := by
  have hp := on_smul goodP base_on m
  have h1 := rep_dbl goodP hp h
  rw [← smul_add goodP base_on, ← Nat.two_mul] at h1
  have hne : ¬ ell ∣ 2 * m := not_mul (by decide +kernel) hm
  have h2 := rep_div (on_smul goodP base_on _) h1 (not_zero hne)
  have e : cs (dblM u) = dblX (cs u) 1 * ivP (dblZ kP (cs u) 1) := by
    unfold dblM
    rw [cs_mul, cs_pow, cs_dbX, cs_dbZ, show cs 1 = 1 by decide +kernel]
  rw [e]; exact h2
/-- to double and to go up may be exchanged -/
theorem double_one {k m : Nat} (hk : Clamped k) (hm : Clamped m) {u v x : Int} (hu : cs u = cs (up 9 m)) (hv : cs v = cs (dblM u)) (hx : cs x = cs (up u k)) : up v k % (PP : Int) = dblM x % (PP : Int) := by
  have nk := clamped_not hk
  have nm := clamped_not hm
  have n2 : ¬ ell ∣ 2 * m := not_mul (by decide +kernel) nm
  have h0 : Rep (cs u) 1 (smul ivP dP m baseP) := by rw [hu]; exact pub_rep hm
  have h1 : Rep (cs (up v k)) 1 (smul ivP dP (k * (2 * m)) baseP) := up_rep n2 hk.2.1 (not_mul nk n2) (by rw [hv]; exact dbl_rep nm h0)
  have h2 : Rep (cs (dblM x)) 1 (smul ivP dP (2 * (k * m)) baseP) := dbl_rep (not_mul nk nm) (by rw [hx]; exact up_rep nm hk.2.1 (not_mul nk nm) h0)
  rw [Nat.mul_left_comm] at h2
  exact cs_eq.1 (rep_one h1 h2)
end Go.Proofs.Ytncplefjokbbjaa
/- What clamping leaves of a scalar, as a number. -/
namespace Go.Proofs.Ytncplefjokbbjaa
theorem clampB_byte (s : ByteArray) (i : Nat) (hi : i < (clampB s).size) : (clampB s)[i] = UInt8.ofNat ((clampL (byteI s)).getD i 0).toNat := by
  have hl : i < (clampL (byteI s)).length := by rw [clampL_len, byteI_len]; rw [clampB_size] at hi; exact hi
  have e : (clampL (byteI s)).getD i 0 = (clampL (byteI s))[i] := by simp [List.getD, hl]
  rw [e]
  show ((clampL (byteI s)).map fun n => UInt8.ofNat n.toNat)[i]'(by simpa using hl) = _
  rw [List.getElem_map]
theorem low_byte (s : ByteArray) (hs : s.size = 32) : ∃ x : Nat, x < 256 ∧ (clampL (byteI s)).getD 0 0 = ((x &&& 248 : Nat) : Int) := by
  have hb := byteI_bd s 0
  refine ⟨((byteI s).getD 0 0).toNat, by omega, ?_⟩
  have hl := byteI_len s
  have : (clampL (byteI s)).getD 0 0 = bits .and .u8 ((byteI s).getD 0 0) 248 := by
    unfold clampL
    simp [List.getD, hl, hs]
  rw [this, u8_and _ 248 hb.1 hb.2 (by decide) (by decide)]
  rfl
theorem high_byte (s : ByteArray) (hs : s.size = 32) : ∃ x : Nat, x < 256 ∧ (clampL (byteI s)).getD 31 0 = (((x &&& 127) ||| 64 : Nat) : Int) := by
  have hb := byteI_bd s 31
  refine ⟨((byteI s).getD 31 0).toNat, by omega, ?_⟩
  have hl := byteI_len s
  have : (clampL (byteI s)).getD 31 0 = bits .or .u8 (bits .and .u8 ((byteI s).getD 31 0) 127) 64 := by
    unfold clampL
    simp [List.getD, hl, hs]
  have hlt : ((byteI s).getD 31 0).toNat &&& Int.toNat 127 < 256 := Nat.lt_of_le_of_lt Nat.and_le_right (by decide)
  rw [this, u8_and _ 127 hb.1 hb.2 (by decide) (by decide), u8_or _ 64 (by omega) (by omega) (by decide) (by decide)]
  rfl
theorem clamp_clamped (s : ByteArray) (hs : s.size = 32) : Clamped (numN (clampB s)) := by
  have hz := (clampB_size s).trans hs
  have hlt := numN_lt (clampB s) hz
  obtain ⟨x, hx, ex⟩ := low_byte s hs
  obtain ⟨y, hy, ey⟩ := high_byte s hs
  have b0 : ∀ j, j < 8 → (numN (clampB s)).testBit j = (x &&& 248).testBit j := fun j hj => by
    have h := numN_bit (clampB s) j (by omega)
    rw [h, clampB_byte s _ (by omega), show j / 8 = 0 by omega, ex, show j % 8 = j by omega]
    simp [UInt8.toNat_ofNat', Nat.mod_eq_of_lt hx]
  have b1 : ∀ j, j < 8 → (numN (clampB s)).testBit (248 + j) = ((y &&& 127) ||| 64).testBit j := fun j hj => by
    have h := numN_bit (clampB s) (248 + j) (by omega)
    rw [h, clampB_byte s _ (by omega), show (248 + j) / 8 = 31 by omega, ey, show (248 + j) % 8 = j by omega]
    simp [UInt8.toNat_ofNat', Nat.mod_eq_of_lt hy]
  generalize numN (clampB s) = v at *
  refine ⟨?_, ?_, ?_⟩
  · have h := b1 6 (by omega)
    rw [Nat.testBit_or, show (64 : Nat).testBit 6 = true by decide, Bool.or_true] at h
    exact Nat.ge_two_pow_of_testBit h
  · have h := b1 7 (by omega)
    rw [Nat.testBit_or, Nat.testBit_and, show (64 : Nat).testBit 7 = false by decide, show (127 : Nat).testBit 7 = false by decide, Bool.and_false, Bool.or_false] at h
    apply Nat.lt_pow_two_of_testBit
    intro i hi
    by_cases h255 : i = 255
    · rw [h255]; exact h
    · exact Nat.testBit_lt_two_pow (Nat.lt_of_lt_of_le (show v < 2 ^ 256 from hlt) (Nat.pow_le_pow_right (by decide) (by omega)))
  · have : v % 2 ^ 3 = 0 := by
      apply Nat.eq_of_testBit_eq
      intro j
      rw [Nat.testBit_mod_two_pow, Nat.zero_testBit]
      by_cases hj : j < 3
      · rw [b0 j (by omega), Nat.testBit_and]
        have : (248 : Nat).testBit j = false := by
          rcases j with _ | _ | _ | j
          · decide
          · decide
          · decide
          · omega
        rw [this]; simp
      · simp [hj]
    exact this
end Go.Proofs.Ytncplefjokbbjaa
