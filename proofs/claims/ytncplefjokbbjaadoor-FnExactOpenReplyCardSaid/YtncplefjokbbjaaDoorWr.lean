/- WrapReply on both sides. -/
import Derived.Test.YtncplefjokbbjaaDoorSx
namespace Go.Proofs.YtncplefjokbbjaaDoor
open Go.RowKit
set_option maxHeartbeats 4000000
set_option maxRecDepth 20000
/-- a nonce of noughts -/
def nonB : ByteArray := strOfNums (List.replicate 12 0)
theorem nonB_size : nonB.size = 12 := rfl
theorem make12 (w : World) : (Instr.makeSlice 22 (.int .i64 12) (.int .i64 12)).run Tryd.prog w = .ok (.slice (some ⟨w.heap.size, 0, none⟩) 12 12) (w.alloc (.cells (Array.replicate 12 (.int .u8 0)) 5)) := by kernel_rfl
theorem conv12 (w : World) : (convert 22 9 (.slice (some ⟨w.heap.size, 0, none⟩) 12 12)).run Tryd.prog (w.alloc (.cells (Array.replicate 12 (.int .u8 0)) 5)) = .ok (.string nonB) (w.alloc (.cells (Array.replicate 12 (.int .u8 0)) 5)) := by
  refine run_convert_bytes_arg _ 22 5 Tryd.underlying22 Tryd.underlying5 w.heap.size 0 12 12 (List.replicate 12 0) (by simp) ?_ 9 Tryd.underlying9
  intro i hi
  rw [Nat.zero_add, List.getD_eq_getElem?_getD, List.getElem?_replicate, if_pos hi]
  unfold World.cell?
  rw [show (⟨w.heap.size, i, none⟩ : Addr).block = w.heap.size from rfl, heap_alloc_new]
  show (Array.replicate 12 (Value.int .u8 0))[i]? = _
  rw [Array.getElem?_replicate, if_pos hi]
  rfl
theorem long_one (s : ByteArray) (w : World) (b : Nat) (hc : w.cell? ⟨b, 0, none⟩ = some (.string s)) : Calls Tryd.prog 27 #[.slice (some ⟨b, 0, none⟩) 1 1] w fun e w' => e = .returned (.bool (longB s)) ∧ w' = w := by
  by_cases h : 65536 < s.size
  · rw [long_t h]
    go_enter Tryd.func27, Tryd.ntmps27
    go_wp2
    refine wp_loop_rounds 2 ?_
    rw [rounds_succ]; go_wp2
    go_ret
    exact ⟨rfl, rfl⟩
  · rw [long_f h]
    go_enter Tryd.func27, Tryd.ntmps27
    go_wp2
    refine wp_loop_rounds 2 ?_
    rw [rounds_succ]; go_wp2
    rw [rounds_succ]; go_wp2
    go_ret
    exact ⟨rfl, rfl⟩
def scode1 (s : ByteArray) : Int := if longB s then 2 else if s.size = 32 then 0 else 1
theorem size_one (s : ByteArray) (w : World) (k : Nat) (hc : w.cell? ⟨k, 0, none⟩ = some (.string s)) :
    Calls Tryd.prog 19 #[.slice (some ⟨k, 0, none⟩) 1 1] w fun e w' => e = .returned (.int .i64 (scode1 s)) ∧ w' = w := by
  cases hl : longB s with
  | true =>
    rw [show scode1 s = 2 by simp [scode1, hl]]
    go_enter Tryd.func19, Tryd.ntmps19
    go_wp2_with fail
    refine (long_one s _ _ hc).mono ?_
    rintro e w1 ⟨rfl, rfl⟩
    rw [hl]
    go_wp2
    go_ret
    exact ⟨rfl, rfl⟩
  | false =>
    by_cases h : s.size = 32
    · rw [show scode1 s = 0 by simp [scode1, hl, h]]
      have hd : ((s.size : Int) != 32) = false := by simp; omega
      go_enter Tryd.func19, Tryd.ntmps19
      go_wp2_with fail
      refine (long_one s _ _ hc).mono ?_
      rintro e w1 ⟨rfl, rfl⟩
      rw [hl]
      go_wp2
      refine wp_loop_rounds 2 ?_
      rw [rounds_succ]; go_wp2
      rw [rounds_succ]; go_wp2
      go_ret
      exact ⟨rfl, rfl⟩
    · rw [show scode1 s = 1 by simp [scode1, hl, h]]
      have hd : ((s.size : Int) != 32) = true := by simp; omega
      go_enter Tryd.func19, Tryd.ntmps19
      go_wp2_with fail
      refine (long_one s _ _ hc).mono ?_
      rintro e w1 ⟨rfl, rfl⟩
      rw [hl]
      go_wp2
      refine wp_loop_rounds 2 ?_
      rw [rounds_succ]; go_wp2
      go_ret
      exact ⟨rfl, rfl⟩
/-- what a reply key puts on -/
theorem rep20 (key : ByteArray) (hk : key.size = 32) (xs : List Int) (hn : xs.length ≤ 65536) (v : Value) (w : World) (hv : bytesV w v xs) (t : TypeId) (fr : Nat × Nat) (hq : w.heap[0]? = some (.cells qArr t fr)) :
    Calls Tryd.prog 20 #[.string key, v] w fun e w' => ∃ r, e = .returned r ∧ ownB w.heap.size w' r (xorL key nonB 0 xs) ∧ Below w.heap.size w w' := by
  have h0 : 0 < w.heap.size := (Array.getElem?_eq_some_iff.1 hq).1
  have hA : ∃ A cap, v = .slice A xs.length cap := by obtain ⟨A, cap, h, _⟩ := hv; exact ⟨A, cap, h⟩
  obtain ⟨A, cap, rfl⟩ := hA
  have h1 := make12 w
  have h2 := conv12 w
  have hst := hide (start23 key nonB hk nonB_size)
  have hxo := hide (fun W (hb : Below w.heap.size w W) => xored24 key nonB 0 (by decide) (by decide) xs hn (.slice A xs.length cap) W (hv.below hb) t fr ((hb.block 0 h0).trans hq))
  have HB0 := hide ((Below.refl w.heap.size w).alloc (Nat.le_refl _) (.cells (Array.replicate 12 (.int .u8 0)) 5))
  clear hv hq h0 hk
  generalize ((startW key nonB 0).map wV).toArray = S at *
  generalize xorL key nonB 0 xs = R at *
  generalize xs.length = n at *
  generalize nonB = nb at *
  go_enter Tryd.func20, Tryd.ntmps20
  go_wp2_with fail
  refine (unhide hst _).mono ?_
  rintro e w2 ⟨rfl, hb2⟩
  have H2 := hide ((unhide HB0).trans (hb2.mono (unhide HB0).size))
  clear hb2 h1 h2 hst
  go_wp2_with fail
  refine (unhide hxo w2 (unhide H2)).mono ?_
  rintro e w3 ⟨r, rfl, ho, hb3⟩
  have H3 := hide ((unhide H2).trans (hb3.mono (unhide H2).size))
  have HO := hide (ho.lower (unhide H2).size)
  clear ho hb3
  go_wp2
  go_returns
  exact ⟨_, rfl, unhide HO, unhide H3⟩
/-- the bytes and the code that WrapReply answers -/
def wrC (key : ByteArray) (n : Nat) : Int := if 65536 < n then 2 else scode1 key
def wrL (key : ByteArray) (xs : List Int) : List Int := if wrC key xs.length = 0 then xorL key nonB 0 xs else []
theorem wr_nil {key : ByteArray} {xs : List Int} {e : Int} (h : wrC key xs.length = e) (he : e ≠ 0) : wrL key xs = [] := by
  unfold wrL; rw [if_neg (by rw [h]; exact he)]
theorem wrL_len (key : ByteArray) (xs : List Int) : (wrL key xs).length ≤ xs.length := by
  unfold wrL; split
  · rw [xorL_len]; exact Nat.le_refl _
  · simp
theorem scode1_cases (s : ByteArray) : (scode1 s = 0 ∧ s.size = 32) ∨ (scode1 s = 1 ∧ s.size ≠ 32 ∧ s.size ≤ 65536) ∨ (scode1 s = 2 ∧ 65536 < s.size) := by
  unfold scode1 longB
  by_cases h : 65536 < s.size
  · right; right; simp [h]
  · by_cases h2 : s.size = 32
    · left; simp [h2]
    · right; left; simp [h, h2]; omega
theorem impl_WR (key : ByteArray) (xs : List Int) (v : Value) (w : World) (hv : bytesV w v xs) (t : TypeId) (fr : Nat × Nat) (hq : w.heap[0]? = some (.cells qArr t fr)) :
    Calls Tryd.prog 7 #[.string key, v] w fun e w' => ∃ r, e = .returned (.tuple #[r, .int .i64 (wrC key xs.length)]) ∧ ownB w.heap.size w' r (wrL key xs) ∧ Below w.heap.size w w' := by
  have h0 : 0 < w.heap.size := (Array.getElem?_eq_some_iff.1 hq).1
  have hA : ∃ A cap, v = .slice A xs.length cap := by obtain ⟨A, cap, h, _⟩ := hv; exact ⟨A, cap, h⟩
  obtain ⟨A, cap, rfl⟩ := hA
  have hb0 : Below w.heap.size w (w.alloc (.cells #[.slice A xs.length cap] 22)) := (Below.refl _ _).alloc (Nat.le_refl _) _
  have hl := hide (long_list A xs.length cap (decide (65536 < xs.length)) rfl (w.alloc (.cells #[.slice A xs.length cap] 22)) w.heap.size (by
    rw [Go.cell_of_row _ _ _ _ _ _ (heap_alloc_new w _)]; rfl))
  have HB0 := hide hb0
  by_cases h1 : 65536 < xs.length
  · have eC : wrC key xs.length = 2 := by unfold wrC; rw [if_pos h1]
    rw [wr_nil eC (by decide), eC]
    rw [show decide (65536 < xs.length) = true by simpa using h1] at hl
    clear h1 eC hv hq h0 hb0
    generalize xs.length = n at *
    go_enter Tryd.func7, Tryd.ntmps7
    go_wp2_with fail
    refine (unhide hl).mono ?_
    rintro e w1 ⟨rfl, rfl⟩
    go_wp2
    go_returns
    exact ⟨_, rfl, own_nil _ _, unhide HB0⟩
  · have eC : wrC key xs.length = scode1 key := by unfold wrC; rw [if_neg h1]
    rw [show decide (65536 < xs.length) = false by simpa using h1] at hl
    have hb1 : Below w.heap.size w ((w.alloc (.cells #[.slice A xs.length cap] 22)).alloc (.cells #[.string key] 9)) := hb0.alloc (by simp) _
    have hs := hide (size_one key ((w.alloc (.cells #[.slice A xs.length cap] 22)).alloc (.cells #[.string key] 9)) (w.heap.size + 1) (by
      rw [Go.cell_of_row _ _ _ _ _ _ (heap_at _ _ _ (by simp))]; rfl))
    have HB1 := hide hb1
    rcases scode1_cases key with ⟨e0, hk⟩ | ⟨e0, _⟩ | ⟨e0, _⟩
    · rw [e0] at eC hs
      have eL : wrL key xs = xorL key nonB 0 xs := by unfold wrL; rw [if_pos eC]
      rw [eC, eL]
      have hr := hide (fun W (hb : Below w.heap.size w W) => rep20 key hk xs (by omega) (.slice A xs.length cap) W (hv.below hb) t fr ((hb.block 0 h0).trans hq))
      clear h1 eC hv hq h0 hb0 hb1 e0 eL hk
      generalize xorL key nonB 0 xs = R at *
      generalize xs.length = n at *
      go_enter Tryd.func7, Tryd.ntmps7
      go_wp2_with fail
      refine (unhide hl).mono ?_
      rintro e w1 ⟨rfl, rfl⟩
      go_wp2_with fail
      refine (unhide hs).mono ?_
      rintro e w1 ⟨rfl, rfl⟩
      go_wp2_with fail
      refine (unhide hr _ (unhide HB1)).mono ?_
      rintro e w3 ⟨r, rfl, ho, hb3⟩
      have H3 := hide ((unhide HB1).trans (hb3.mono (unhide HB1).size))
      have HO := hide (ho.lower (unhide HB1).size)
      clear ho hb3
      go_wp2
      go_returns
      exact ⟨_, rfl, unhide HO, unhide H3⟩
    all_goals
      rw [e0] at eC hs
      rw [wr_nil eC (by decide), eC]
      clear h1 eC hv hq h0 hb0 hb1 e0
      generalize xs.length = n at *
      go_enter Tryd.func7, Tryd.ntmps7
      go_wp2_with fail
      refine (unhide hl).mono ?_
      rintro e w1 ⟨rfl, rfl⟩
      go_wp2_with fail
      refine (unhide hs).mono ?_
      rintro e w1 ⟨rfl, rfl⟩
      go_wp2
      go_returns
      exact ⟨_, rfl, own_nil _ _, unhide HB1⟩
theorem spec_WR (key : ByteArray) (xs : List Int) (v : Value) (w : World) (hv : bytesV w v xs) :
    Calls Tryd.prog 5 #[.string key, v] w fun e w' => ∃ r, e = .returned (.tuple #[r, .int .i64 (wrC key xs.length)]) ∧ ownB w.heap.size w' r (wrL key xs) ∧ Below w.heap.size w w' := by
  have hA : ∃ A cap, v = .slice A xs.length cap := by obtain ⟨A, cap, h, _⟩ := hv; exact ⟨A, cap, h⟩
  obtain ⟨A, cap, rfl⟩ := hA
  have HV := hide hv
  have ON := hide (own_none w)
  have BN := hide ((Below.refl w.heap.size w).alloc (Nat.le_refl _) (.cells #[] 5))
  clear hv
  by_cases h1 : 65536 < key.size
  · have eC : wrC key xs.length = 2 := by unfold wrC scode1; rw [long_t h1]; split <;> rfl
    rw [wr_nil eC (by decide), eC]
    have h1' : (65536 : Int) < (key.size : Int) := by omega
    clear h1 eC
    generalize xs.length = n at *
    go_enter Tryd.func5, Tryd.ntmps5
    go_wp2
    go_returns
    exact ⟨_, rfl, unhide ON, unhide BN⟩
  · have h1' : (key.size : Int) ≤ 65536 := by omega
    by_cases h3 : 65536 < xs.length
    · have eC : wrC key xs.length = 2 := by unfold wrC; rw [if_pos h3]
      rw [wr_nil eC (by decide), eC]
      have h3' : (65536 : Int) < (xs.length : Int) := by omega
      clear h1 h3 eC
      generalize xs.length = n at *
      go_enter Tryd.func5, Tryd.ntmps5
      go_wp2
      go_returns
      exact ⟨_, rfl, unhide ON, unhide BN⟩
    · have h3' : (xs.length : Int) ≤ 65536 := by omega
      have eC : wrC key xs.length = if key.size = 32 then 0 else 1 := by unfold wrC scode1; rw [if_neg h3, long_f h1]; rfl
      by_cases h4 : key.size = 32
      · rw [if_pos h4] at eC
        have eL : wrL key xs = xorL key nonB 0 xs := by unfold wrL; rw [if_pos eC]
        rw [eC, eL]
        have m1 := make12 w
        have m2 := conv12 w
        have hd : ((key.size : Int) != 32) = false := by simp; omega
        have BM := hide ((Below.refl w.heap.size w).alloc (Nat.le_refl _) (.cells (Array.replicate 12 (.int .u8 0)) 5))
        have hx := hide (xor27 key nonB h4 nonB_size 0 (by decide) (by decide) xs (by omega) (.slice A xs.length cap) _ ((unhide HV).below (unhide BM)))
        clear h1 h3 eC eL h4
        generalize xorL key nonB 0 xs = R at *
        generalize xs.length = n at *
        generalize nonB = nb at *
        go_enter Tryd.func5, Tryd.ntmps5
        go_wp2_with fail
        refine (unhide hx).mono ?_
        rintro e w1 ⟨r, rfl, ho, hb⟩
        have HO := hide (ho.lower (unhide BM).size)
        have HB := hide ((unhide BM).trans (hb.mono (unhide BM).size))
        clear ho hb m1 m2
        go_wp2
        go_returns
        exact ⟨_, rfl, unhide HO, unhide HB⟩
      · rw [if_neg h4] at eC
        rw [wr_nil eC (by decide), eC]
        have hd : ((key.size : Int) != 32) = true := by simp; omega
        clear h1 h3 eC h4
        generalize xs.length = n at *
        go_enter Tryd.func5, Tryd.ntmps5
        go_wp2
        go_returns
        exact ⟨_, rfl, unhide ON, unhide BN⟩
end Go.Proofs.YtncplefjokbbjaaDoor
