/- WrapReply on both sides. -/
import Derived.Test.YtggiijlgdpkkfaaDoorSx
namespace Go.Proofs.YtggiijlgdpkkfaaDoor
open Go.RowKit
set_option maxHeartbeats 4000000
set_option maxRecDepth 20000
/-- a nonce of noughts -/
def nonB : ByteArray := strOfNums (List.replicate 12 0)
theorem nonB_size : nonB.size = 12 := rfl
theorem make12 (w : World) : (Instr.makeSlice 44 (.int .i64 12) (.int .i64 12)).run Tryd.prog w = .ok (.slice (some ⟨w.heap.size, 0, none⟩) 12 12) (w.alloc (.cells (Array.replicate 12 (.int .u8 0)) 5)) := by kernel_rfl
theorem conv12 (w : World) : (convert 44 9 (.slice (some ⟨w.heap.size, 0, none⟩) 12 12)).run Tryd.prog (w.alloc (.cells (Array.replicate 12 (.int .u8 0)) 5)) = .ok (.string nonB) (w.alloc (.cells (Array.replicate 12 (.int .u8 0)) 5)) := by
  refine run_convert_bytes_arg _ 44 5 Tryd.underlying44 Tryd.underlying5 w.heap.size 0 12 12 (List.replicate 12 0) (by simp) ?_ 9 Tryd.underlying9
  intro i hi
  rw [Nat.zero_add, List.getD_eq_getElem?_getD, List.getElem?_replicate, if_pos hi]
  unfold World.cell?
  rw [show (⟨w.heap.size, i, none⟩ : Addr).block = w.heap.size from rfl, heap_alloc_new]
  show (Array.replicate 12 (Value.int .u8 0))[i]? = _
  rw [Array.getElem?_replicate, if_pos hi]
  rfl
def scode1 (s : ByteArray) : Int := if longB s then 2 else if s.size = 32 then 0 else 1
/-- what a reply key puts on -/
theorem rep20 (key : ByteArray) (hk : key.size = 32) (xs : List Int) (hn : xs.length ≤ 65536) (v : Value) (w : World) (hv : bytesV w v xs) (t : TypeId) (fr : Nat × Nat) (hq : w.heap[0]? = some (.cells qArr t fr)) :
    Calls Tryd.prog 21 #[.string key, v] w fun e w' => ∃ r, e = .returned r ∧ ownB w.heap.size w' r (xorL key nonB 0 xs) ∧ Below w.heap.size w w' := by
  have h0 : 0 < w.heap.size := (Array.getElem?_eq_some_iff.1 hq).1
  have hA : ∃ A cap, v = .slice A xs.length cap := by obtain ⟨A, cap, h, _⟩ := hv; exact ⟨A, cap, h⟩
  obtain ⟨A, cap, rfl⟩ := hA
  have h1 := make12 w
  have h2 := conv12 w
  have hst := hide (start23 key nonB hk nonB_size)
  have hxo := hide (fun W (hb : Below w.heap.size w W) => xored24 key nonB 0 (by decide) (by decide) xs hn (.slice A xs.length cap) W (hv.below hb) t fr ((hb.block 0 h0).trans hq))
  have HB0 := hide ((Below.refl w.heap.size w).alloc (Nat.le_refl _) (.cells (Array.replicate 12 (.int .u8 0)) 5))
  clear hv hq h0 hk
  generalize ((startW key nonB 0).map wV).toArray = S at *
  generalize xorL key nonB 0 xs = R at *
  generalize xs.length = n at *
  generalize nonB = nb at *
  go_enter Tryd.func21, Tryd.ntmps21
  go_wp2_with fail
  refine (unhide hst _).mono ?_
  rintro e w2 ⟨rfl, hb2⟩
  have H2 := hide ((unhide HB0).trans (hb2.mono (unhide HB0).size))
  clear hb2 h1 h2 hst
  go_wp2_with fail
  refine (unhide hxo w2 (unhide H2)).mono ?_
  rintro e w3 ⟨r, rfl, ho, hb3⟩
  have H3 := hide ((unhide H2).trans (hb3.mono (unhide H2).size))
  have HO := hide (ho.lower (unhide H2).size)
  clear ho hb3
  go_wp2
  go_returns
  exact ⟨_, rfl, unhide HO, unhide H3⟩
/-- the bytes and the code that WrapReply answers -/
def wrC (key : ByteArray) (n : Nat) : Int := if 65536 < n then 2 else scode1 key
def wrL (key : ByteArray) (xs : List Int) : List Int := if wrC key xs.length = 0 then xorL key nonB 0 xs else []
theorem wr_nil {key : ByteArray} {xs : List Int} {e : Int} (h : wrC key xs.length = e) (he : e ≠ 0) : wrL key xs = [] := by
  unfold wrL; rw [if_neg (by rw [h]; exact he)]
theorem wrL_len (key : ByteArray) (xs : List Int) : (wrL key xs).length ≤ xs.length := by
  unfold wrL; split
  · rw [xorL_len]; exact Nat.le_refl _
  · simp
theorem scode1_cases (s : ByteArray) : (scode1 s = 0 ∧ s.size = 32) ∨ (scode1 s = 1 ∧ s.size ≠ 32 ∧ s.size ≤ 65536) ∨ (scode1 s = 2 ∧ 65536 < s.size) := by
  unfold scode1 longB
  by_cases h : 65536 < s.size
  · right; right; simp [h]
  · by_cases h2 : s.size = 32
    · left; simp [h2]
    · right; left; simp [h, h2]; omega
end Go.Proofs.YtggiijlgdpkkfaaDoor
