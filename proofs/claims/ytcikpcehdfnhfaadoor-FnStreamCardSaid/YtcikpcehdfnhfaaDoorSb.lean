/- StreamBlock on both sides, and the law. -/
import Derived.Test.YtcikpcehdfnhfaaDoorStart
import Derived.Test.YtcikpcehdfnhfaaDoorKeys
namespace Go.Proofs.YtcikpcehdfnhfaaDoor
open Go.RowKit
set_option maxHeartbeats 4000000
set_option maxRecDepth 20000
/-- the bytes of a block -/
def blkN (key nonce : ByteArray) (c : Int) : List Int := outN (rndC (startW key nonce c) 10) (startW key nonce c) 16
theorem blkN_len (key nonce : ByteArray) (c : Int) : (blkN key nonce c).length = 64 := outN_len _ _ _
/-- what StreamBlock answers -/
def sbV (key nonce : ByteArray) (c : Int) : Value :=
  if scode key nonce false ≠ 0 then .tuple #[.string ⟨#[]⟩, .int .i64 (scode key nonce false)] else if 0 ≤ c ∧ c ≤ 4294967295 then .tuple #[.string (strOfNums (blkN key nonce c)), .int .i64 0] else .tuple #[.string ⟨#[]⟩, .int .i64 4]
theorem scode_ok {key nonce : ByteArray} {lb : Bool} (h : scode key nonce lb = 0) : key.size = 32 ∧ nonce.size = 12 ∧ lb = false := by
  unfold scode at h
  split at h
  · omega
  · split at h
    · omega
    · rename_i h1 h2
      refine ⟨by omega, by omega, ?_⟩
      cases lb
      · rfl
      · simp at h1
theorem scode_cases (key nonce : ByteArray) (lb : Bool) : scode key nonce lb = 0 ∨ scode key nonce lb = 1 ∨ scode key nonce lb = 2 := by
  unfold scode; split
  · omega
  · split <;> omega
theorem spec_SB (key nonce : ByteArray) (c : Int) (w : World) : Calls Tryd.prog 14 #[.string key, .string nonce, .int .i64 c] w fun e w' => e = .returned (sbV key nonce c) ∧ Below w.heap.size w w' := by
  by_cases h1 : 65536 < key.size
  · have e : Hid (sbV key nonce c = .tuple #[.string ⟨#[]⟩, .int .i64 2]) := hide (by unfold sbV scode; rw [if_pos (by simp [h1])]; simp [h1])
    have h1' : (65536 : Int) < (key.size : Int) := by omega
    rw [unhide e]
    clear h1
    go_enter Tryd.func14, Tryd.ntmps14
    go_wp2
    go_returns
    exact ⟨rfl, Below.refl _ _⟩
  · by_cases h2 : 65536 < nonce.size
    · have e : Hid (sbV key nonce c = .tuple #[.string ⟨#[]⟩, .int .i64 2]) := hide (by unfold sbV scode; rw [if_pos (by simp [h2])]; simp [h2])
      have h1' : (key.size : Int) ≤ 65536 := by omega
      have h2' : (65536 : Int) < (nonce.size : Int) := by omega
      rw [unhide e]
      clear h1 h2
      go_enter Tryd.func14, Tryd.ntmps14
      go_wp2
      go_returns
      exact ⟨rfl, Below.refl _ _⟩
    · have h1' : (key.size : Int) ≤ 65536 := by omega
      have h2' : (nonce.size : Int) ≤ 65536 := by omega
      have hk := hide (keys_any key nonce w)
      by_cases h3 : key.size = 32 ∧ nonce.size = 12
      · have e0 : scode key nonce false = 0 := by unfold scode; rw [if_neg (by simp; omega), if_neg (by omega)]
        have hi := hide (in_any c 0 4294967295 w)
        by_cases h4 : 0 ≤ c ∧ c ≤ 4294967295
        · have e : Hid (sbV key nonce c = .tuple #[.string (strOfNums (blkN key nonce c)), .int .i64 0]) := hide (by unfold sbV; rw [if_neg (by simp [e0]), if_pos h4])
          rw [unhide e]
          rw [show (decide (key.size = 32) && decide (nonce.size = 12)) = true by simp [h3]] at hk
          rw [show (decide (0 ≤ c) && decide (c ≤ 4294967295)) = true by simp [h4]] at hi
          have hb := hide (block_any key nonce h3.1 h3.2 c w)
          clear h1 h2 h3 h4 e0
          go_enter Tryd.func14, Tryd.ntmps14
          go_wp2_with fail
          refine (unhide hk).mono ?_
          rintro e w1 ⟨rfl, rfl⟩
          go_wp2_with fail
          refine (unhide hi).mono ?_
          rintro e w1 ⟨rfl, rfl⟩
          go_wp2_with fail
          refine (unhide hb).mono ?_
          rintro e w1 ⟨rfl, hbl⟩
          rw [show strOfNums (outN (rndC (startW key nonce c) 10) (startW key nonce c) 16) = strOfNums (blkN key nonce c) from rfl]
          go_wp2
          go_returns
          exact ⟨rfl, hbl⟩
        · have e : Hid (sbV key nonce c = .tuple #[.string ⟨#[]⟩, .int .i64 4]) := hide (by unfold sbV; rw [if_neg (by simp [e0]), if_neg h4])
          rw [unhide e]
          rw [show (decide (key.size = 32) && decide (nonce.size = 12)) = true by simp [h3]] at hk
          rw [show (decide (0 ≤ c) && decide (c ≤ 4294967295)) = false by rw [Bool.eq_false_iff]; simpa using h4] at hi
          clear h1 h2 h3 h4 e0
          go_enter Tryd.func14, Tryd.ntmps14
          go_wp2_with fail
          refine (unhide hk).mono ?_
          rintro e w1 ⟨rfl, rfl⟩
          go_wp2_with fail
          refine (unhide hi).mono ?_
          rintro e w1 ⟨rfl, rfl⟩
          go_wp2
          go_returns
          exact ⟨rfl, Below.refl _ _⟩
      · have e0 : scode key nonce false = 1 := by unfold scode; rw [if_neg (by simp; omega), if_pos (by omega)]
        have e : Hid (sbV key nonce c = .tuple #[.string ⟨#[]⟩, .int .i64 1]) := hide (by unfold sbV; rw [if_pos (by simp [e0]), e0])
        rw [unhide e]
        rw [show (decide (key.size = 32) && decide (nonce.size = 12)) = false by rw [Bool.eq_false_iff]; simpa using h3] at hk
        clear h1 h2 h3 e0
        go_enter Tryd.func14, Tryd.ntmps14
        go_wp2_with fail
        refine (unhide hk).mono ?_
        rintro e w1 ⟨rfl, rfl⟩
        go_wp2
        go_returns
        exact ⟨rfl, Below.refl _ _⟩
theorem start_blk (key nonce : ByteArray) (c : Int) (w : World) (t : TypeId) (fr : Nat × Nat) (hq : w.heap[0]? = some (.cells qArr t fr)) :
    Calls Tryd.prog 28 #[.agg ((startW key nonce 0).map wV).toArray, .int .u32 (c % 4294967296)] w fun e w' => e = .returned (.agg ((blkN key nonce c).map (Value.int .u8)).toArray) ∧ Below w.heap.size w w' := by
  have h := blk28 (startW key nonce 0) (startW_len key nonce 0) (BitVec.ofInt 32 c) w t fr hq
  rw [start_set, wV, ← w_of' c] at h
  exact h
theorem conv_new (B : List Int) (hl : B.length = 64) (w : World) (t : TypeId) (W : World) (hW : W.heap[w.heap.size]? = some (.cells (B.map (Value.int .u8)).toArray t (0, 0))) :
    (convert 22 9 (.slice (some ⟨w.heap.size, 0, none⟩) 64 64)).run Tryd.prog W = .ok (.string (strOfNums B)) W := by
  refine run_convert_bytes_arg _ 22 5 Tryd.underlying22 Tryd.underlying5 w.heap.size 0 64 64 B hl ?_ 9 Tryd.underlying9
  intro i hi
  rw [Nat.zero_add, Go.cell_of_row _ _ _ _ _ _ hW, List.getElem?_toArray, List.getElem?_map, List.getD_eq_getElem?_getD, List.getElem?_eq_getElem (by omega)]
  rfl
theorem impl_SB (key nonce : ByteArray) (c : Int) (w : World) (t : TypeId) (fr : Nat × Nat) (hq : w.heap[0]? = some (.cells qArr t fr)) :
    Calls Tryd.prog 11 #[.string key, .string nonce, .int .i64 c] w fun e w' => e = .returned (sbV key nonce c) ∧ Below w.heap.size w w' := by
  have hs := hide (scode_any key nonce (.slice none 0 0) false w (fun w1 _ => long_none w1))
  have h0 : 0 < w.heap.size := (Array.getElem?_eq_some_iff.1 hq).1
  rcases scode_cases key nonce false with e0 | e0 | e0
  · obtain ⟨h1, h2, _⟩ := scode_ok e0
    rw [e0] at hs
    by_cases h4 : 0 ≤ c ∧ c ≤ 4294967295
    · have e : Hid (sbV key nonce c = .tuple #[.string (strOfNums (blkN key nonce c)), .int .i64 0]) := hide (by unfold sbV; rw [if_neg (by simp [e0]), if_pos h4])
      rw [unhide e]
      have HQ := hide hq
      have H0 := hide h0
      have hst := hide (start23 key nonce h1 h2)
      have hbk := start_blk key nonce c
      rw [show c % 4294967296 = c by omega] at hbk
      have HBK := hide hbk
      clear hbk
      obtain ⟨c0, c1⟩ := h4
      have HL := hide (blkN_len key nonce c)
      clear hq h0 h1 h2 e0 
      generalize blkN key nonce c = B at *
      generalize ((startW key nonce 0).map wV).toArray = S at *
      go_enter Tryd.func11, Tryd.ntmps11
      go_wp2_with fail
      refine (unhide hs).mono ?_
      rintro e w1 ⟨rfl, hb1⟩
      go_wp2_with fail
      refine (unhide hst w1).mono ?_
      rintro e w2 ⟨rfl, hb2⟩
      have hb12 := hb1.trans (hb2.mono hb1.size)
      have HB := hide hb12
      clear hb1 hb2 hb12
      go_wp2_with fail
      refine (unhide HBK w2 t fr (((unhide HB).block 0 (unhide H0)).trans (unhide HQ))).mono ?_
      rintro e w3 ⟨rfl, hb3⟩
      have hb4 := hide ((unhide HB).trans (hb3.mono (unhide HB).size))
      clear hb3
      have hl := unhide HL
      have hsz : Hid ((Tryd.prog.info? 49).map (·.size) = some (B.map (Value.int .u8)).toArray.size) := hide (by rw [(zero_of_info info49).2]; simp [hl])
      have hol : Hid (64 = (B.map (Value.int .u8)).toArray.size) := hide (by simp [hl])
      have hall : Hid ((B.map (Value.int .u8)).toArray.all (·.oneCell') = true) := hide (by simp [Value.oneCell'])
      have hcv := hide (conv_new B hl w3)
      clear hl
      generalize (B.map (Value.int .u8)).toArray = cs at *
      go_wp2_with (refine wpList_store_row rfl 49 _ _ rfl w3.heap.size cs rfl rfl 49 _ (heap_at _ _ _ rfl) (unhide hsz) (unhide hol) (unhide hall) ?_)
      rw [World.setRow_alloc_new, unhide hcv 49 _ (heap_at _ _ _ rfl)]
      go_wp2
      go_returns
      exact ⟨rfl, (unhide hb4).alloc (unhide hb4).size _⟩
    · have e : Hid (sbV key nonce c = .tuple #[.string ⟨#[]⟩, .int .i64 4]) := hide (by unfold sbV; rw [if_neg (by simp [e0]), if_neg h4])
      rw [unhide e]
      clear h1 h2 e0
      by_cases h5 : c < 0
      · clear h4
        go_enter Tryd.func11, Tryd.ntmps11
        go_wp2_with fail
        refine (unhide hs).mono ?_
        rintro e w1 ⟨rfl, hb1⟩
        go_wp2
        go_returns
        exact ⟨rfl, hb1⟩
      · have h6 : 0 ≤ c := by omega
        have h7 : 4294967295 < c := by omega
        clear h4 h5
        go_enter Tryd.func11, Tryd.ntmps11
        go_wp2_with fail
        refine (unhide hs).mono ?_
        rintro e w1 ⟨rfl, hb1⟩
        go_wp2
        go_returns
        exact ⟨rfl, hb1⟩
  · have e : Hid (sbV key nonce c = .tuple #[.string ⟨#[]⟩, .int .i64 1]) := hide (by unfold sbV; rw [if_pos (by simp [e0]), e0])
    rw [e0] at hs
    rw [unhide e]
    clear e0
    go_enter Tryd.func11, Tryd.ntmps11
    go_wp2_with fail
    refine (unhide hs).mono ?_
    rintro e w1 ⟨rfl, hb1⟩
    go_wp2
    go_returns
    exact ⟨rfl, hb1⟩
  · have e : Hid (sbV key nonce c = .tuple #[.string ⟨#[]⟩, .int .i64 2]) := hide (by unfold sbV; rw [if_pos (by simp [e0]), e0])
    rw [e0] at hs
    rw [unhide e]
    clear e0
    go_enter Tryd.func11, Tryd.ntmps11
    go_wp2_with fail
    refine (unhide hs).mono ?_
    rintro e w1 ⟨rfl, hb1⟩
    go_wp2
    go_returns
    exact ⟨rfl, hb1⟩
theorem sbV_form (key nonce : ByteArray) (c : Int) : ∃ t n, sbV key nonce c = .tuple #[.string t, .int .i64 n] := by
  unfold sbV; split
  · exact ⟨_, _, rfl⟩
  · split <;> exact ⟨_, _, rfl⟩
theorem sb_law (key nonce : ByteArray) (c : Int) (w : World) (t : TypeId) (fr : Nat × Nat) (hq : w.heap[0]? = some (.cells qArr t fr)) :
    Calls Tryd.prog 4 #[.string key, .string nonce, .int .i64 c] w fun e w' => e = .returned (.bool true) ∧ Below w.heap.size w w' := by
  have hs := spec_SB key nonce c w
  have hi := fun W => impl_SB key nonce c W t fr
  obtain ⟨tx, n, hv⟩ := sbV_form key nonce c
  rw [hv] at hs
  simp only [hv] at hi
  have h0 : 0 < w.heap.size := (Array.getElem?_eq_some_iff.1 hq).1
  have HQ := hide hq
  have H0 := hide h0
  have HS := hide hs
  have HI := hide hi
  clear hq h0 hs hi hv
  by_cases h1 : 1048576 < key.size
  · have h1' : (1048576 : Int) < (key.size : Int) := by omega
    clear h1
    go_enter Tryd.func4, Tryd.ntmps4
    go_wp2
    go_ret
    exact ⟨rfl, Below.refl _ _⟩
  · have h1' : (key.size : Int) ≤ 1048576 := by omega
    clear h1
    by_cases h2 : 1048576 < nonce.size
    · have h2' : (1048576 : Int) < (nonce.size : Int) := by omega
      clear h2
      go_enter Tryd.func4, Tryd.ntmps4
      go_wp2
      go_ret
      exact ⟨rfl, Below.refl _ _⟩
    · have h2' : (nonce.size : Int) ≤ 1048576 := by omega
      clear h2
      go_enter Tryd.func4, Tryd.ntmps4
      go_wp2_with fail
      refine (unhide HS).mono ?_
      rintro e w1 ⟨rfl, hb⟩
      go_wp2_with fail
      refine (unhide HI w1 ((hb.block 0 (unhide H0)).trans (unhide HQ))).mono ?_
      rintro e w2 ⟨rfl, hb2⟩
      go_wp2
      go_ret
      exact ⟨rfl, hb.trans (hb2.mono hb.size)⟩
end Go.Proofs.YtcikpcehdfnhfaaDoor
