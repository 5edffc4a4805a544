/- Contracts of PublicKey on both sides, and the law of it. -/
import Derived.Test.YtncplefjokbbjaaOpMult
namespace Go.Proofs.Ytncplefjokbbjaa
open Go.RowKit
set_option maxHeartbeats 4000000
set_option maxRecDepth 20000
def nineB : ByteArray := ⟨#[9, 0, 0, 0, 0, 0, 0, 0, 0, 0, 0, 0, 0, 0, 0, 0, 0, 0, 0, 0, 0, 0, 0, 0, 0, 0, 0, 0, 0, 0, 0, 0]⟩
theorem nine_eq : (⟨#[9]⟩ : ByteArray) ++ strOfNums [0, 0, 0, 0, 0, 0, 0, 0, 0, 0, 0, 0, 0, 0, 0, 0, 0, 0, 0, 0, 0, 0, 0, 0, 0, 0, 0, 0, 0, 0, 0] = nineB := by decide +kernel
theorem nine_size : nineB.size = 32 := rfl
theorem nine_num : lowN nineB = 9 := by decide +kernel
theorem make31 (w : World) : (Instr.makeSlice 30 (.int .i64 31) (.int .i64 31)).run Try.prog w = .ok (.slice (some ⟨w.heap.size, 0, none⟩) 31 31) (w.alloc (.cells (Array.replicate 31 (.int .u8 0)) 5)) := by kernel_rfl
theorem conv31 (w : World) : (convert 30 9 (.slice (some ⟨w.heap.size, 0, none⟩) 31 31)).run Try.prog (w.alloc (.cells (Array.replicate 31 (.int .u8 0)) 5)) = .ok (.string (strOfNums (List.replicate 31 0))) (w.alloc (.cells (Array.replicate 31 (.int .u8 0)) 5)) := by
  refine run_convert_bytes_arg _ 30 5 Try.underlying30 Try.underlying5 w.heap.size 0 31 31 (List.replicate 31 0) (by simp) ?_ 9 Try.underlying9
  intro i hi
  rw [Nat.zero_add, List.getD_eq_getElem?_getD, List.getElem?_replicate, if_pos hi]
  unfold World.cell?
  rw [show (⟨w.heap.size, i, none⟩ : Addr).block = w.heap.size from rfl, heap_alloc_new]
  show (Array.replicate 31 (Value.int .u8 0))[i]? = _
  rw [Array.getElem?_replicate, if_pos hi]
  rfl
theorem nine_any (w : World) : Calls Try.prog 46 #[] w fun e w' => e = .returned (.string nineB) ∧ Below w.heap.size w w' := by
  have h1 := make31
  have h2 := conv31
  have HN := hide nine_eq
  go_enter Try.func46, Try.ntmps46
  go_wp2
  go_ret
  refine ⟨?_, by go_grown⟩
  rw [← unhide HN]
  rfl
theorem lpublic_any (k : ByteArray) (hk : k.size = 32) (w : World) : Calls Try.prog 23 #[.string k] w fun e w' => e = .returned (.string (multB k nineB)) ∧ Below w.heap.size w w' := by
  go_enter Try.func23, Try.ntmps23
  go_wp2_with fail
  refine (nine_any _).mono ?_
  rintro e w1 ⟨rfl, hb1⟩
  go_wp2_with fail
  refine (lmult_any k nineB hk nine_size _).mono ?_
  rintro e w2 ⟨rfl, hb2⟩
  go_wp2
  go_ret
  exact ⟨rfl, hb1.trans (hb2.mono hb1.size)⟩
def PubV (s : ByteArray) : Value := if 65536 < s.size then .tuple #[.string ⟨#[]⟩, .int .i64 2] else if s.size = 32 then .tuple #[.string (multB s nineB), .int .i64 0] else .tuple #[.string ⟨#[]⟩, .int .i64 1]
theorem spec_Pub (s : ByteArray) (w : World) : Calls Try.prog 12 #[.string s] w fun e w' => e = .returned (PubV s) ∧ Below w.heap.size w w' := by
  by_cases hl : 65536 < s.size
  · rw [PubV, if_pos hl]
    go_enter Try.func12, Try.ntmps12
    go_wp2
    go_ret2
    exact ⟨rfl, Below.refl _ _⟩
  · by_cases h : s.size = 32
    · rw [PubV, if_neg hl, if_pos h]
      go_enter Try.func12, Try.ntmps12
      go_wp2_with fail
      refine (lpublic_any s h _).mono ?_
      rintro e w1 ⟨rfl, hb⟩
      go_wp2
      go_ret2
      exact ⟨rfl, hb⟩
    · rw [PubV, if_neg hl, if_neg h]
      have hd : ((s.size : Int) != 32) = true := by simp; omega
      go_enter Try.func12, Try.ntmps12
      go_wp2
      go_ret2
      exact ⟨rfl, Below.refl _ _⟩
theorem public24 (s : ByteArray) (h : s.size = 32) (w : World) : Calls Try.prog 24 #[.string s] w fun e w' => e = .returned (.string (multB s nineB)) ∧ Below w.heap.size w w' := by
  go_enter Try.func24, Try.ntmps24
  go_wp2_with fail
  refine (goneUp_any s h 9 0 0 0 0 _ (by unfold Car; omega)).mono ?_
  rintro e w3 ⟨⟨r0, r1, r2, r3, r4, rfl, hcar, hrv⟩, hb3⟩
  have HR := hide hrv
  have HD := hide hcar
  have H3 := hide hb3
  clear hcar hrv hb3
  go_wp2_with fail
  refine (text_any r0 r1 r2 r3 r4 _ (unhide HD)).mono ?_
  rintro e w4 ⟨rfl, hb4⟩
  have E : enc (V5 r0 r1 r2 r3 r4 % pInt) = multB s nineB := by
    have e1 := unhide HR
    rw [V5_small] at e1
    rw [e1, multB, nine_num]
  rw [E]
  go_wp2
  go_ret
  have b3 := unhide H3
  exact ⟨rfl, b3.trans (hb4.mono b3.size)⟩
theorem impl_Pub (s : ByteArray) (w : World) : Calls Try.prog 13 #[.string s] w fun e w' => e = .returned (PubV s) ∧ Below w.heap.size w w' := by
  by_cases hl : 65536 < s.size
  · rw [PubV, if_pos hl]
    have hL : scode1 s = 2 := by simp [scode1, long_t hl]
    go_enter Try.func13, Try.ntmps13
    go_wp2_with fail
    refine (size_one s _ _ (by simp)).mono ?_
    rintro e w1 ⟨rfl, rfl⟩
    rw [hL]
    go_wp2
    go_ret2
    exact ⟨rfl, by go_grown⟩
  · by_cases h : s.size = 32
    · rw [PubV, if_neg hl, if_pos h]
      have hL : scode1 s = 0 := by simp [scode1, long_f hl, h]
      go_enter Try.func13, Try.ntmps13
      go_wp2_with fail
      refine (size_one s _ _ (by simp)).mono ?_
      rintro e w1 ⟨rfl, rfl⟩
      rw [hL]
      go_wp2_with fail
      refine (public24 s h _).mono ?_
      rintro e w4 ⟨rfl, hb4⟩
      go_wp2
      go_ret2
      exact ⟨rfl, ((Below.refl _ _).alloc (Nat.le_refl _) _).trans (hb4.mono (by simp))⟩
    · rw [PubV, if_neg hl, if_neg h]
      have hL : scode1 s = 1 := by simp [scode1, long_f hl, h]
      go_enter Try.func13, Try.ntmps13
      go_wp2_with fail
      refine (size_one s _ _ (by simp)).mono ?_
      rintro e w1 ⟨rfl, rfl⟩
      rw [hL]
      go_wp2
      go_ret2
      exact ⟨rfl, by go_grown⟩
theorem law_Pub (s : ByteArray) (hs : s.size ≤ maxLen) (w : World) : Calls Try.prog 5 #[.string s] w fun e w' => e = .returned (.bool true) ∧ Below w.heap.size w w' := by
  unfold maxLen at hs
  by_cases h1 : s.size ≤ 1048576
  · obtain ⟨x, y, hx⟩ : ∃ (x : ByteArray) (y : Int), PubV s = .tuple #[.string x, .int .i64 y] := by
      unfold PubV; split
      · exact ⟨_, _, rfl⟩
      · split <;> exact ⟨_, _, rfl⟩
    have HX := hide hx
    clear hx
    go_enter Try.func5, Try.ntmps5
    go_wp2_with fail
    refine (spec_Pub s _).mono ?_
    rintro e w1 ⟨rfl, hb1⟩
    rw [unhide HX]
    go_wp2_with fail
    refine (impl_Pub s _).mono ?_
    rintro e w2 ⟨rfl, hb2⟩
    rw [unhide HX]
    go_wp2
    go_ret
    exact ⟨rfl, hb1.trans (hb2.mono hb1.size)⟩
  · go_enter Try.func5, Try.ntmps5
    go_wp2
    go_ret
    exact ⟨rfl, Below.refl _ _⟩
end Go.Proofs.Ytncplefjokbbjaa
