/- Bytes drawn of a source: bytes, plain, PlainOf; and 'at' as a function of the bytes. -/
import Derived.Test.YtcikpcehdfnhfaaDoorAppZ
import Derived.Test.YtcikpcehdfnhfaaDoorArg
namespace Go.Proofs.YtcikpcehdfnhfaaDoor
open Go.RowKit
set_option maxHeartbeats 4000000
set_option maxRecDepth 20000
theorem bytes33 (w : World) (p : Nat) (A : Option Addr) (n cap k : Nat) (s : Int) (hs : w.heap[p]? = some (srcO A n cap k s)) (hn : n ≤ maxLen) (hk : k < 1000) (s0 : 0 ≤ s) (s1 : s < 2147483648) (hc : codeIn w p A n) :
    Calls Tryd.prog 33 #[.pointer (some ⟨p, 0, none⟩), .int .i64 40] w fun e w' => ∃ (v : Value) (xs : List Int) (s' : Int) (k' : Nat), e = .returned v ∧ xs.length ≤ 40 ∧ isB xs ∧ w'.ownsRow w.heap.size 5 1 v xs.length (xs.map (Value.int .u8)) ∧ (∃ g c, v = .slice (some ⟨g, 0, none⟩) xs.length c) ∧ 0 ≤ s' ∧ s' < 2147483648 ∧ k' < 2000 ∧ w'.heap[p]? = some (srcO A n cap (k' : Int) s') ∧ w.grownBy w' (some p) := by
  obtain ⟨i0, hi0, hz0, hz1, hz2⟩ := info_parts srcInfo5
  have hp := (Array.getElem?_eq_some_iff.1 hs).1
  have hs1 : (w.alloc (.cells #[] 5)).heap[p]? = some (srcO A n cap k s) := by rw [Below.heap_alloc _ _ _ hp]; exact hs
  have hg1 : w.grownBy (w.alloc (.cells #[] 5)) (some p) := grown_trans (World.grownBy.refl w _) (World.grownBy_alloc w _ none) (by simp)
  have hn1 := hide (next_at 41 (w.alloc (.cells #[] 5)) p A n cap k s hs1 (by omega) (by omega) hn (by omega) s0 s1 (codeIn_grown hc hg1))
  have own0 := World.ownsRow_made w (e := 5) (size := 1) #[] 0 (Nat.le_refl _) (Nat.zero_le _) rfl
  have hz0' : p < (w.alloc (.cells #[] 5)).heap.size := by simp; omega
  clear hs1
  go_enter Tryd.func33, Tryd.ntmps33
  go_wp2_with fail
  refine (unhide hn1).mono ?_
  rintro e w1 ⟨c, s2, d2, rfl, c0, c1, s20, s21, rfl⟩
  obtain ⟨m, rfl⟩ := Int.eq_ofNat_of_zero_le c0
  have ho2 := own_src (d := d2) (A := A) (n := n) (cap := cap) (a := ((k + 1 : Nat) : Int)) (s := s2) own0 hp
  have hg2 := grown_src (d := d2) (A := A) (n := n) (cap := cap) (a := ((k + 1 : Nat) : Int)) (s := s2) hg1
  have hs2 := get_src (w.alloc (.cells #[] 5)) d2 p A n cap ((k + 1 : Nat) : Int) s2 hz0'
  generalize srcW (w.alloc (.cells #[] 5)) d2 p A n cap ((k + 1 : Nat) : Int) s2 = w2 at *
  have O2 := hide ho2
  have G2 := hide hg2
  have S2 := hide hs2
  clear own0 hg1 hn1 ho2 hg2 hs2 hz0'
  go_wp2
  go_loopw [5, 6] (fun o c wr => ∃ (j : Nat) (xs : List Int) (s' : Int), xs.length + j = m ∧ c = .int .i64 j ∧ isB xs ∧ 0 ≤ s' ∧ s' < 2147483648 ∧ wr.ownsRow w.heap.size 5 1 o xs.length (xs.map (Value.int .u8)) ∧ (∃ g cc, o = .slice (some ⟨g, 0, none⟩) xs.length cc) ∧ wr.heap[p]? = some (srcO A n cap ((k + 1 + xs.length : Nat) : Int) s') ∧ w.grownBy wr (some p)) (fun _ c _ => (intOf c).toNat)
  case atStart => exact ⟨m, [], s2, by simp, rfl, (fun x hx => by cases hx), s20, s21, unhide O2, ⟨_, _, rfl⟩, unhide S2, unhide G2⟩
  case round =>
    clear O2 G2 S2
    obtain ⟨j, xs, s', hj, rfl, hB, s0', s1', hown, hv, hsrc, hgr⟩ := hrel
    by_cases hlt : 0 < j
    · have q0 : (0 : Int) < (j : Int) := by omega
      have hnx := hide (next_at 256 wr p A n cap (k + 1 + xs.length) s' hsrc (by omega) (by omega) hn (by omega) s0' s1' (codeIn_grown hc hgr))
      have HOW := hide hown
      have HGR := hide hgr
      have HV := hide hv
      have HB := hide hB
      have HJ := hide hj
      clear hown hgr hsrc hv hB hj
      go_wp2_with fail
      refine (unhide hnx).mono ?_
      rintro e w3 ⟨c, s3, d3, rfl, c0', c1', s30, s31, rfl⟩
      have ho3 := own_src (d := d3) (A := A) (n := n) (cap := cap) (a := ((k + 1 + xs.length + 1 : Nat) : Int)) (s := s3) (unhide HOW) hp
      have hg3 := grown_src (d := d3) (A := A) (n := n) (cap := cap) (a := ((k + 1 + xs.length + 1 : Nat) : Int)) (s := s3) (unhide HGR)
      have hs3 := get_src wr d3 p A n cap ((k + 1 + xs.length + 1 : Nat) : Int) s3 (Nat.lt_of_lt_of_le hp (unhide HGR).size)
      have hz : w.heap.size ≤ (srcW wr d3 p A n cap ((k + 1 + xs.length + 1 : Nat) : Int) s3).heap.size := hg3.size
      generalize srcW wr d3 p A n cap ((k + 1 + xs.length + 1 : Nat) : Int) s3 = w4 at *
      have hl40 := unhide HJ
      go_wp2_with (at_builtin; refine wpList_append_lies _ rfl _ _ 22 rfl w.heap.size 5 i0 (.int .u8 0) 1 1 Tryd.underlying22 hi0 hz0 hz1 hz2 rfl (by omega) u5 xs.length (xs.map (Value.int .u8)) rfl (ho3.alloc _)
                    ⟨w4.heap.size, 0, none⟩ 1 1 [.int .u8 c] rfl rfl (World.news_of_block (cs := #[.int .u8 c]) (t := 5) (fr := (0, 0)) (heap_alloc_new w4 _)) (by simp [Value.oneCell'])
                    (by omega) (by unfold maxLen; omega) (by omega) (by simp; omega) (w4.heap.size + 1) (by simp) ?_; intro gg cp w5 hown5 hgrow5 hat hltg)
      clear hl40
      go_wp2
      go_roundw
      case rel =>
        have hjj := unhide HJ
        refine ⟨j - 1, xs ++ [c], s3, by simp; omega, ?_, ?_, s30, s31, by rw [List.map_append, List.length_append]; exact hown5, ⟨gg, cp, by rw [List.length_append]; rfl⟩, ?_, ?_⟩
        · congr 1; omega
        · intro x hx
          rcases List.mem_append.1 hx with h | h
          · exact unhide HB x h
          · simp at h; subst h; exact ⟨c0', c1'⟩
        · rw [hgrow5.block p (by simp; omega) (fun e => by have := (ho3.lt p e.symm).1; omega), Below.heap_alloc _ _ _ (by omega), hs3, List.length_append]
          rfl
        · exact grown_trans (grown_trans hg3 (World.grownBy_alloc w4 _ none) (by simp)) hgrow5 fun k hk => (ho3.lt k hk).1
      case measure => simp [intOf]; omega
    · obtain rfl : j = 0 := by omega
      clear hlt
      go_wp2
      go_ret
      exact ⟨_, xs, s', _, rfl, by omega, hB, hown, hv, s0', s1', by omega, hsrc, hgr⟩
end Go.Proofs.YtcikpcehdfnhfaaDoor
