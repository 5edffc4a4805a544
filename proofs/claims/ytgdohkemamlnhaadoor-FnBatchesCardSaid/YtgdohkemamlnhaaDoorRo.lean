/- A reader made; bytes held against bytes. -/
import Derived.Test.YtgdohkemamlnhaaDoorRm
namespace Go.Proofs.YtgdohkemamlnhaaDoor
open Go.RowKit
set_option maxHeartbeats 4000000
set_option maxRecDepth 20000
theorem any63 (p : Nat) (A : Option Addr) (l cap : Nat) (W : World) (hr : W.heap[p]? = some (.cells #[.slice A l cap] 22 (0, 0))) :
    Calls Tryd.prog 63 #[.slice (some ⟨p, 0, none⟩) 1 1] W fun e w' => e = .returned (.bool (decide (65536 < l))) ∧ w' = W := by
  have c0 : W.cell? ⟨p, 0, none⟩ = some (.slice A l cap) := row_cell hr
  clear hr
  by_cases h : 65536 < l
  · have q : (65536 : Int) < (l : Int) := by omega
    rw [decide_eq_true h]
    clear h
    go_enter Tryd.func63, Tryd.ntmps63
    go_wp2
    refine wp_loop_rounds 2 ?_
    rw [rounds_succ]
    go_wp2
    go_ret
    exact ⟨rfl, rfl⟩
  · have q : (l : Int) ≤ (65536 : Int) := by omega
    rw [decide_eq_false h]
    clear h
    go_enter Tryd.func63, Tryd.ntmps63
    go_wp2
    refine wp_loop_rounds 2 ?_
    rw [rounds_succ]
    go_wp2
    rw [rounds_succ]
    go_wp2
    go_ret
    exact ⟨rfl, rfl⟩
/-- the fault of bytes that are too long -/
def f0 (xs : List Int) : Option (ByteArray × Int) := if 65536 < xs.length then some (⟨#[98, 121, 116, 101, 115]⟩, 2) else none
theorem reader49 (v : Value) (xs : List Int) (W : World) (hv : bytesC W v xs) :
    Calls Tryd.prog 49 #[v] W fun e w' => ∃ q, e = .returned (.pointer (some ⟨q, 0, none⟩)) ∧ Rd W q w' xs (f0 xs) := by
  have hv' := hv
  obtain ⟨A, cap, rfl, hc, hi, hd⟩ := hv'
  have B1 : Below W.heap.size W (W.alloc (.cells #[.slice A xs.length cap, .nilIface] 74)) := bl_al (Below.refl _ _)
  have R0 : Rd W W.heap.size ((W.alloc (.cells #[.slice A xs.length cap, .nilIface] 74)).alloc (.cells #[.slice A xs.length cap] 22)) xs none :=
    ⟨bl_al B1, Nat.le_refl _, _, (Below.heap_alloc _ _ W.heap.size (by simp)).trans (heap_at W _ _ rfl), hv⟩
  have ha := hide (any63 (W.heap.size + 1) A xs.length cap ((W.alloc (.cells #[.slice A xs.length cap, .nilIface] 74)).alloc (.cells #[.slice A xs.length cap] 22)) (heap_at _ _ _ (by simp)))
  have hf := hide (fail51 W W.heap.size _ xs none ⟨#[98, 121, 116, 101, 115]⟩ 2 R0)
  have HR := hide R0
  clear hd hi hc hv B1 R0
  by_cases h : 65536 < xs.length
  · have e0 : f0 xs = some (⟨#[98, 121, 116, 101, 115]⟩, 2) := if_pos h
    rw [e0]
    rw [decide_eq_true h] at ha
    clear h e0
    go_enter Tryd.func49, Tryd.ntmps49
    go_wp2_with fail
    refine (unhide ha).mono ?_
    rintro e w1 ⟨rfl, rfl⟩
    go_wp2_with fail
    refine (unhide hf).mono ?_
    rintro e w2 ⟨⟨u, rfl⟩, r2, _⟩
    have R2 := hide r2
    clear r2
    go_wp2
    go_ret
    exact ⟨_, rfl, unhide R2⟩
  · have e0 : f0 xs = none := if_neg h
    rw [e0]
    rw [decide_eq_false h] at ha
    clear h e0
    go_enter Tryd.func49, Tryd.ntmps49
    go_wp2_with fail
    refine (unhide ha).mono ?_
    rintro e w1 ⟨rfl, rfl⟩
    go_wp2
    go_ret
    exact ⟨_, rfl, unhide HR⟩
theorem str_inj {xs ys : List Int} (hx : isB xs) (hy : isB ys) (h : strOfNums xs = strOfNums ys) : xs = ys := by
  rw [← txt_str xs hx, ← txt_str ys hy, h]
theorem beq_str (s t : ByteArray) : (s.toList == t.toList) = decide (s = t) := by
  rw [ByteArray.toList_eq, ByteArray.toList_eq, Bool.eq_iff_iff]
  simp only [beq_iff_eq, decide_eq_true_eq]
  exact ⟨fun h => WideShapes.bytes_inj h, fun h => by rw [h]⟩
theorem equal50 (a b : Value) (xs ys : List Int) (W : World) (ha : (convert 22 9 a).run Tryd.prog W = .ok (.string (strOfNums xs)) W) (hb : (convert 22 9 b).run Tryd.prog W = .ok (.string (strOfNums ys)) W) (hx : isB xs) (hy : isB ys) :
    Calls Tryd.prog 50 #[a, b] W fun e w' => e = .returned (.bool (decide (xs = ys))) ∧ w' = W := by
  have e1 : decide (xs = ys) = decide (strOfNums xs = strOfNums ys) := by
    rw [Bool.eq_iff_iff]
    simp only [decide_eq_true_eq]
    exact ⟨fun h => by rw [h], str_inj hx hy⟩
  rw [e1]
  clear e1 hx hy
  generalize strOfNums xs = s at *
  generalize strOfNums ys = t at *
  go_enter Tryd.func50, Tryd.ntmps50
  go_wp2
  go_ret
  exact ⟨ret_bool (beq_str s t), rfl⟩
end Go.Proofs.YtgdohkemamlnhaaDoor
