/- Words drawn of a source. -/
import Derived.Test.YtfodcnnaeakhfaaSrc
import Derived.Test.YtfodcnnaeakhfaaClo
namespace Go.Proofs.Ytfodcnnaeakhfaa
open Go.RowKit
set_option maxHeartbeats 4000000
set_option maxRecDepth 100000
theorem next_big (w : World) (p : Nat) (A : Option Addr) (n cap k : Nat) (s : Int) (hs : w.heap[p]? = some (srcO A n cap k s)) (hn : n ≤ maxLen) (hk : k + 3 < 4611686018427387904) (s0 : 0 ≤ s) (s1 : s < 2147483648) (hc : codeIn w p A n) :
    Calls Try.prog 42 #[.pointer (some ⟨p, 0, none⟩), .int .i64 65536] w fun e w' => ∃ (c s' : Int) (d' : Nat), e = .returned (.int .i64 c) ∧ 0 ≤ c ∧ c ≤ 65535 ∧ 0 ≤ s' ∧ s' < 2147483648 ∧ w' = srcW w d' p A n cap ((k + 3 : Nat) : Int) s' := by
  have hp := (Array.getElem?_eq_some_iff.1 hs).1
  have K : Hid (∀ (d j : Nat) (t : Int), j ≤ k + 2 → 0 ≤ t → t < 2147483648 → Calls Try.prog 49 #[.pointer (some ⟨p, 0, none⟩)] (srcW w d p A n cap j t) fun e w' => ∃ (c s' : Int) (d' : Nat), e = .returned (.int .i64 c) ∧ 0 ≤ c ∧ c < 256 ∧ 0 ≤ s' ∧ s' < 2147483648 ∧ w' = srcW w d' p A n cap ((j + 1 : Nat) : Int) s') :=
    hide fun d j t hj t0 t1 => byte_any w d p A n cap j t hp hn (by omega) t0 t1 hc
  rw [← src_same _ _ _ _ _ _ _ hs]
  simp only [src_src]
  generalize w.drawn = d0
  clear hs hn hk hc
  go_enter Try.func42, Try.ntmps42
  go_wp2_with fail
  refine (unhide K _ k s (by omega) s0 s1).mono ?_
  rintro e w1 ⟨c1, s2, d1, rfl, c10, c11, s20, s21, rfl⟩
  go_wp2_with fail
  refine (unhide K d1 (k + 1) s2 (by omega) s20 s21).mono ?_
  rintro e w1 ⟨c2, s3, d2, rfl, c20, c21, s30, s31, rfl⟩
  go_wp2_with fail
  refine (unhide K d2 (k + 1 + 1) s3 (by omega) s30 s31).mono ?_
  rintro e w1 ⟨c3, s4, d3, rfl, c30, c31, s40, s41, rfl⟩
  clear K
  go_wp2
  go_ret
  have h0 : 0 ≤ c1 * 65536 + c2 * 256 + c3 := by omega
  exact ⟨(c1 * 65536 + c2 * 256 + c3) % 65536, s4, d3, rfl, Int.emod_nonneg _ (by omega), by have := Int.emod_lt_of_pos (c1 * 65536 + c2 * 256 + c3) (show (0 : Int) < 65536 by omega); omega, s40, s41, rfl⟩
theorem srcInfo3 : (Try.prog.info? 3).map (fun i => (i.zero, i.size, i.bytes)) = some (some (.int .i64 0), 1, 8) := by kernel_rfl
theorem many_any (N : Nat) (w : World) (p : Nat) (A : Option Addr) (n cap : Nat) (s : Int) (hs : w.heap[p]? = some (srcO A n cap 0 s)) (hN : N ≤ 4096) (hn : n ≤ maxLen) (s0 : 0 ≤ s) (s1 : s < 2147483648) (hc : codeIn w p A n) :
    Calls Try.prog 34 #[.pointer (some ⟨p, 0, none⟩), .int .i64 N] w fun e w' => ∃ (v : Value) (xs : List Int), e = .returned v ∧ xs.length = N ∧ (∀ x ∈ xs, isW x = true) ∧ w'.ownsRow w.heap.size 3 1 v N (xs.map (Value.int .i64)) ∧ w.grownBy w' (some p) := by
  obtain ⟨i0, hi0, hz0, hz1, hz2⟩ := info_parts srcInfo3
  have hp := (Array.getElem?_eq_some_iff.1 hs).1
  go_enter Try.func34, Try.ntmps34
  go_wp2
  go_loopw [5, 6] (fun o c wr => ∃ (j : Nat) (xs : List Int) (s' : Int), j ≤ N ∧ xs.length = j ∧ (∀ x ∈ xs, isW x = true) ∧ c = .int .i64 j ∧ 0 ≤ s' ∧ s' < 2147483648 ∧ wr.ownsRow w.heap.size 3 1 o j (xs.map (Value.int .i64)) ∧ wr.heap[p]? = some (srcO A n cap ((j * 3 : Nat) : Int) s') ∧ w.grownBy wr (some p)) (fun _ c _ => N - (intOf c).toNat)
  case atStart => exact ⟨0, [], s, Nat.zero_le _, rfl, (fun x hx => by cases hx), rfl, s0, s1, World.ownsRow_made w #[] 0 (Nat.le_refl _) (Nat.zero_le _) rfl, by rw [Below.heap_alloc _ _ _ hp]; exact hs, grown_trans (World.grownBy.refl w _) (World.grownBy_alloc w _ none) (by simp)⟩
  case round =>
    obtain ⟨j, xs, s', hj, hx, hxw, rfl, s0', s1', hown, hsrc, hgr⟩ := hrel
    have HXW := hide hxw
    clear hxw
    by_cases hlt : j < N
    · have hcl : ∀ i d', (srcW wr d' p A n cap i s').heap.size = wr.heap.size := fun _ _ => size_src _ _ _ _ _ _ _ _
      go_wp2_with fail
      refine (next_big wr p A n cap (j * 3) s' hsrc hn (by omega) s0' s1' (codeIn_grown hc hgr)).mono ?_
      rintro e w1 ⟨c, s2, d2, rfl, c0, c1, s20, s21, rfl⟩
      have ho2 := own_src (d := d2) (A := A) (n := n) (cap := cap) (a := ((j * 3 + 3 : Nat) : Int)) (s := s2) hown hp
      have hg2 := grown_src (d := d2) (A := A) (n := n) (cap := cap) (a := ((j * 3 + 3 : Nat) : Int)) (s := s2) hgr
      have hs2 := get_src wr d2 p A n cap ((j * 3 + 3 : Nat) : Int) s2 (Nat.lt_of_lt_of_le hp hgr.size)
      have hz : w.heap.size ≤ (srcW wr d2 p A n cap ((j * 3 + 3 : Nat) : Int) s2).heap.size := hg2.size
      generalize srcW wr d2 p A n cap ((j * 3 + 3 : Nat) : Int) s2 = w2 at *
      clear hown hgr hsrc hcl
      go_wp2_with (at_builtin; refine wpList_append_lies _ rfl _ _ 23 rfl w.heap.size 3 i0 (.int .i64 0) 1 8 Try.underlying23 hi0 hz0 hz1 hz2 rfl (by omega) u5 j (xs.map (Value.int .i64)) rfl (ho2.alloc _)
                    ⟨w2.heap.size, 0, none⟩ 1 1 [.int .i64 c] rfl rfl (World.news_of_block (cs := #[.int .i64 c]) (t := 3) (fr := (0, 0)) (heap_alloc_new w2 _)) (by simp [Value.oneCell'])
                    (by omega) (by unfold maxLen; omega) (by omega) (by simp; omega) (w2.heap.size + 1) (by simp) ?_; intro gg cp w3 hown3 hgrow3 hat hltg)
      go_wp2
      go_roundw
      case rel =>
        refine ⟨j + 1, xs ++ [c], s2, by omega, by simp [hx], fun x hx => ?_, by go_num, s20, s21, by rw [List.map_append]; exact hown3, ?_, ?_⟩
        · rcases List.mem_append.1 hx with h | h
          · exact unhide HXW x h
          · obtain rfl : x = c := by simpa using h
            unfold isW; simp [c0, c1]
        · rw [hgrow3.block p (by simp; omega) (fun e => by have := (ho2.lt p e.symm).1; omega), Below.heap_alloc _ _ _ (by omega), show (j + 1) * 3 = j * 3 + 3 by omega]
          exact hs2
        · exact grown_trans (grown_trans hg2 (World.grownBy_alloc w2 _ none) (by simp)) hgrow3 fun k hk => (ho2.lt k hk).1
      case measure => simp [intOf]; omega
    · obtain rfl : j = N := by omega
      go_wp2
      go_ret
      exact ⟨_, xs, rfl, hx, unhide HXW, hown, hgr⟩
theorem own_intsC {w : World} {base n : Nat} {v : Value} {xs : List Int} (h : w.ownsRow base 3 1 v n (xs.map (Value.int .i64))) (hx : xs.length = n) : intsC w v xs := by
  rcases h.2 with ⟨rfl, h0⟩ | ⟨g, cap, cur, rfl, hb, hg, h1, h2, h3, ht⟩
  · obtain rfl : xs = [] := List.length_eq_zero_iff.1 (by omega)
    exact ⟨⟨none, 0, rfl, fun h => by simp at h⟩, none, 0, rfl, Nat.le_refl _⟩
  · subst hx
    refine ⟨⟨_, cap, rfl, fun _ => ⟨g, 0, rfl, (Array.getElem?_eq_some_iff.1 hg).1, fun i hi => ?_⟩⟩, _, cap, rfl, h1⟩
    rw [Nat.zero_add, Go.cell_of_row _ _ _ _ _ _ hg, ← Array.getElem?_toList]
    have e : (cur.toList.take (xs.length * 1))[i]? = (xs.map (Value.int .i64))[i]? := by rw [ht]
    rw [List.getElem?_take_of_lt (by omega)] at e
    rw [e, List.getElem?_map, List.getD_eq_getElem?_getD, List.getElem?_eq_getElem (by omega)]
    rfl
theorem wordsOf_any (N : Nat) (w : World) (A : Option Addr) (n cap : Nat) (hN : N ≤ 2000) (hn : n ≤ maxLen) (hA : codeAt w A n) :
    Calls Try.prog 16 #[.slice A n cap, .int .i64 N] w fun e w' => ∃ (v : Value) (xs : List Int), e = .returned v ∧ xs.length = N ∧ wOK xs = true ∧ intsC w' v xs ∧ Below w.heap.size w w' := by
  have KS := hide (source_any A n cap hn w)
  have s1 : ((n % 1000 : Nat) : Int) < 2147483648 := by omega
  have KM := hide (many_any N (w.alloc (srcO A n cap 0 ((n % 1000 : Nat) : Int))) w.heap.size A n cap ((n % 1000 : Nat) : Int) (heap_at _ _ _ rfl) (by omega) hn (by omega) s1 (codeIn_alloc hA _))
  clear s1 hA hn
  go_enter Try.func16, Try.ntmps16
  go_wp2_with fail
  refine (unhide KS).mono ?_
  rintro e w1 ⟨rfl, rfl⟩
  clear KS
  go_wp2_with fail
  refine (unhide KM).mono ?_
  rintro e w2 ⟨v, xs, rfl, hl, hw, ho, hg⟩
  have HI := hide (own_intsC ho hl)
  have HW : Hid (wOK xs = true) := hide (by
    unfold wOK; rw [decide_eq_true (by omega), Bool.true_and, List.all_eq_true]; exact hw)
  have HL := hide hl
  have HG := hide hg
  clear KM ho hl hw hg
  go_wp2
  go_ret
  refine ⟨_, xs, rfl, unhide HL, unhide HW, unhide HI, ?_⟩
  have g := unhide HG
  have sz : (w.alloc (srcO A n cap 0 ((n % 1000 : Nat) : Int))).heap.size = w.heap.size + 1 := Array.size_push ..
  refine ⟨g.os, g.tape, g.output, by have := g.size; omega, fun k hk => ?_⟩
  rw [g.block k (by omega) (by simp; omega), Below.heap_alloc _ _ _ hk]
end Go.Proofs.Ytfodcnnaeakhfaa
