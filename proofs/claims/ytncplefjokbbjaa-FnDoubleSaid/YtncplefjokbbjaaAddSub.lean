/- Contracts of l01Add and l01Sub. -/
import Derived.Test.YtncplefjokbbjaaOk
namespace Go.Proofs.Ytncplefjokbbjaa
open Go.RowKit
set_option maxHeartbeats 1600000
/-- a block holds ten limbs of a number that is v modulo the prime -/
def Row10 (w : World) (b : Nat) (v : Int) : Prop := ∃ z0 z1 z2 z3 z4 z5 z6 z7 z8 z9 : Int, ∃ rest : List Value, w.heap[b]? = some (rowObj 3 .i64 [z0, z1, z2, z3, z4, z5, z6, z7, z8, z9] rest) ∧ In26 z0 z1 z2 z3 z4 z5 z6 z7 z8 z9 ∧ V10 z0 z1 z2 z3 z4 z5 z6 z7 z8 z9 % pInt = v % pInt
theorem Row10.lt {w : World} {b : Nat} {v : Int} (h : Row10 w b v) : b < w.heap.size := by
  obtain ⟨z0, z1, z2, z3, z4, z5, z6, z7, z8, z9, rest, h, _⟩ := h
  exact (Array.getElem?_eq_some_iff.1 h).1
theorem Row10.kept {w w' : World} {b : Nat} {v : Int} (h : Row10 w b v) (hb : Below w.heap.size w w') : Row10 w' b v := by
  have hl := h.lt
  obtain ⟨z0, z1, z2, z3, z4, z5, z6, z7, z8, z9, rest, h, h2⟩ := h
  exact ⟨z0, z1, z2, z3, z4, z5, z6, z7, z8, z9, rest, by rw [hb.block b hl]; exact h, h2⟩
theorem in_getD {x0 x1 x2 x3 x4 x5 x6 x7 x8 x9 : Int} (h : In26 x0 x1 x2 x3 x4 x5 x6 x7 x8 x9) (k : Nat) : 0 ≤ [x0, x1, x2, x3, x4, x5, x6, x7, x8, x9].getD k 0 ∧ [x0, x1, x2, x3, x4, x5, x6, x7, x8, x9].getD k 0 < 67108864 := by
  obtain ⟨h0, h1, h2, h3, h4, h5, h6, h7, h8, h9⟩ := h
  rcases k with _ | _ | _ | _ | _ | _ | _ | _ | _ | _ | k
  · exact h0
  · exact h1
  · exact h2
  · exact h3
  · exact h4
  · exact h5
  · exact h6
  · exact h7
  · exact h8
  · exact h9
  · exact ⟨Int.le_refl 0, show (0 : Int) < 67108864 by decide⟩
theorem near_add {x0 x1 x2 x3 x4 x5 x6 x7 x8 x9 y0 y1 y2 y3 y4 y5 y6 y7 y8 y9 : Int} (h : In26 x0 x1 x2 x3 x4 x5 x6 x7 x8 x9) (g : In26 y0 y1 y2 y3 y4 y5 y6 y7 y8 y9) : Near (x0 + y0) (x1 + y1) (x2 + y2) (x3 + y3) (x4 + y4) (x5 + y5) (x6 + y6) (x7 + y7) (x8 + y8) (x9 + y9) := by
  obtain ⟨h0, h1, h2, h3, h4, h5, h6, h7, h8, h9⟩ := h
  obtain ⟨g0, g1, g2, g3, g4, g5, g6, g7, g8, g9⟩ := g
  unfold Near; omega
theorem near_sub {x0 x1 x2 x3 x4 x5 x6 x7 x8 x9 y0 y1 y2 y3 y4 y5 y6 y7 y8 y9 : Int} (h : In26 x0 x1 x2 x3 x4 x5 x6 x7 x8 x9) (g : In26 y0 y1 y2 y3 y4 y5 y6 y7 y8 y9) : Near (x0 - y0) (x1 - y1) (x2 - y2) (x3 - y3) (x4 - y4) (x5 - y5) (x6 - y6) (x7 - y7) (x8 - y8) (x9 - y9) := by
  obtain ⟨h0, h1, h2, h3, h4, h5, h6, h7, h8, h9⟩ := h
  obtain ⟨g0, g1, g2, g3, g4, g5, g6, g7, g8, g9⟩ := g
  unfold Near; omega
theorem mod_add {a b u v p : Int} (h : a % p = u % p) (g : b % p = v % p) : (a + b) % p = (u + v) % p := by
  rw [Int.add_emod, h, g, ← Int.add_emod]
theorem mod_sub {a b u v p : Int} (h : a % p = u % p) (g : b % p = v % p) : (a - b) % p = (u - v) % p := by
  rw [Int.sub_emod, h, g, ← Int.sub_emod]
theorem mod_mul {a b u v p : Int} (h : a % p = u % p) (g : b % p = v % p) : (a * b) % p = (u * v) % p := by
  rw [Int.mul_emod, h, g, ← Int.mul_emod]
abbrev Z10 : Obj := .cells #[.int .i64 0, .int .i64 0, .int .i64 0, .int .i64 0, .int .i64 0, .int .i64 0, .int .i64 0, .int .i64 0, .int .i64 0, .int .i64 0] 3
theorem start10 (w : World) : w.alloc Z10 = rowL (adds (w.alloc Z10) #[] (w.alloc Z10).drawn) w.heap.size 3 .i64 (List.replicate 10 0) [] := by
  rw [row_same _ _ _ _ _ _ (by rw [adds_none, heap_alloc_new]; rfl), adds_none]
theorem get_adds_alloc (w : World) (d n : Nat) (h : n < w.heap.size) : (adds (w.alloc Z10) #[] d).heap[n]? = w.heap[n]? := by
  rw [get_adds _ _ _ _ (by simp; omega), heap_alloc_old _ _ h]
def addTo (x0 x1 x2 x3 x4 x5 x6 x7 x8 x9 y0 y1 y2 y3 y4 y5 y6 y7 y8 y9 : Int) (k : Nat) : List Int := (List.range 10).map (fun j => if j < k then [x0, x1, x2, x3, x4, x5, x6, x7, x8, x9].getD j 0 + [y0, y1, y2, y3, y4, y5, y6, y7, y8, y9].getD j 0 else 0)
theorem addTo_succ (x0 x1 x2 x3 x4 x5 x6 x7 x8 x9 y0 y1 y2 y3 y4 y5 y6 y7 y8 y9 : Int) (k : Nat) : addTo x0 x1 x2 x3 x4 x5 x6 x7 x8 x9 y0 y1 y2 y3 y4 y5 y6 y7 y8 y9 (k + 1) = (addTo x0 x1 x2 x3 x4 x5 x6 x7 x8 x9 y0 y1 y2 y3 y4 y5 y6 y7 y8 y9 k).set k ([x0, x1, x2, x3, x4, x5, x6, x7, x8, x9].getD k 0 + [y0, y1, y2, y3, y4, y5, y6, y7, y8, y9].getD k 0) := by
  apply List.ext_getElem
  · simp [addTo]
  · intro i h1 h2
    have hi : i < 10 := by simpa [addTo] using h1
    by_cases e : k = i
    · subst e
      rw [List.getElem_set_self]
      simp [addTo]
    · rw [List.getElem_set_ne e]
      simp only [addTo, List.getElem_map, List.getElem_range]
      by_cases hik : i < k
      · rw [if_pos (by omega), if_pos hik]
      · rw [if_neg (by omega), if_neg hik]
theorem add_any (w : World) (ba bb ca cb : Nat) (u v : Int) (ha : Row10 w ba u) (hb : Row10 w bb v) :
    Calls Try.prog 55 #[.slice (some ⟨ba, 0, none⟩) 10 ca, .slice (some ⟨bb, 0, none⟩) 10 cb] w fun e w' => e = .returned (.slice (some ⟨w.heap.size, 0, none⟩) 10 10) ∧ Below w.heap.size w w' ∧ Row10 w' w.heap.size (u + v) := by
  have la := ha.lt
  have lb := hb.lt
  obtain ⟨x0, x1, x2, x3, x4, x5, x6, x7, x8, x9, ra, hra, hxi, hxv⟩ := ha
  obtain ⟨y0, y1, y2, y3, y4, y5, y6, y7, y8, y9, rb, hrb, hyi, hyv⟩ := hb
  have hm := make10
  have HXA := hide hra
  have HXB := hide hrb
  have HXI := hide hxi
  have HYI := hide hyi
  have HXV := hide hxv
  have HYV := hide hyv
  clear hra hrb hxi hyi hxv hyv
  go_enter Try.func55, Try.ntmps55
  go_wp2
  clear hm
  rw [start10]
  go_loopw [6] (fun c wr => ∃ k : Nat, k ≤ 10 ∧ c = .int .i64 k ∧ ∃ d, wr = rowL (adds (w.alloc Z10) #[] d) w.heap.size 3 .i64 (addTo x0 x1 x2 x3 x4 x5 x6 x7 x8 x9 y0 y1 y2 y3 y4 y5 y6 y7 y8 y9 k) []) (fun c _ => 10 - (intOf c).toNat)
  case atStart => exact ⟨0, by omega, rfl, _, rfl⟩
  case round =>
    obtain ⟨k, hk, rfl, d, rfl⟩ := hrel
    have hB : ∀ d, w.heap.size < (adds (w.alloc Z10) #[] d).heap.size := fun d => by rw [size_adds]; simp
    by_cases hlt : k < 10
    · have hl : (addTo x0 x1 x2 x3 x4 x5 x6 x7 x8 x9 y0 y1 y2 y3 y4 y5 y6 y7 y8 y9 k).length = 10 := by simp [addTo]
      have S := hide (addTo_succ x0 x1 x2 x3 x4 x5 x6 x7 x8 x9 y0 y1 y2 y3 y4 y5 y6 y7 y8 y9 k)
      generalize addTo x0 x1 x2 x3 x4 x5 x6 x7 x8 x9 y0 y1 y2 y3 y4 y5 y6 y7 y8 y9 k = zs at *
      have hc1 : ∀ d, (rowL (adds (w.alloc Z10) #[] d) w.heap.size 3 .i64 zs []).cell? ⟨ba, k, none⟩ = some (.int .i64 ([x0, x1, x2, x3, x4, x5, x6, x7, x8, x9].getD k 0)) := fun d => by
        rw [cell_row_other _ _ _ _ _ _ _ _ (by omega), World.cell?_of_block (w := w) (get_adds_alloc w d ba la)]
        exact row_cell (unhide HXA) k (by simpa using hlt)
      have hc2 : ∀ d, (rowL (adds (w.alloc Z10) #[] d) w.heap.size 3 .i64 zs []).cell? ⟨bb, k, none⟩ = some (.int .i64 ([y0, y1, y2, y3, y4, y5, y6, y7, y8, y9].getD k 0)) := fun d => by
        rw [cell_row_other _ _ _ _ _ _ _ _ (by omega), World.cell?_of_block (w := w) (get_adds_alloc w d bb lb)]
        exact row_cell (unhide HXB) k (by simpa using hlt)
      have hc3 : ∀ d, (rowL (adds (w.alloc Z10) #[] d) w.heap.size 3 .i64 zs []).cell? ⟨w.heap.size, k, none⟩ = some (.int .i64 (zs.getD k 0)) := fun d => cell_row _ _ _ _ _ _ _ (by omega) (hB d)
      have hf1 : ∀ d, (rowL (adds (w.alloc Z10) #[] d) w.heap.size 3 .i64 zs []).frozen? ⟨w.heap.size, k, none⟩ = false := fun d => frozen_row _ _ _ _ _ _ _ (hB d)
      have hs1 : ∀ d v, (rowL (adds (w.alloc Z10) #[] d) w.heap.size 3 .i64 zs []).setCell ⟨w.heap.size, k, none⟩ (.int .i64 v) = rowL (adds (w.alloc Z10) #[] d) w.heap.size 3 .i64 (zs.set k v) [] := fun d v => set_row _ _ _ _ _ _ _ v (by omega) (hB d)
      have bX := in_getD (unhide HXI) k
      have bY := in_getD (unhide HYI) k
      clear hB
      generalize [x0, x1, x2, x3, x4, x5, x6, x7, x8, x9].getD k 0 = A at *
      generalize [y0, y1, y2, y3, y4, y5, y6, y7, y8, y9].getD k 0 = C at *
      generalize zs.getD k 0 = D at *
      go_wp2
      go_region
      go_wp2
      all_goals
        go_roundw
        case rel => exact ⟨k + 1, by omega, by go_num, d + 1, by rw [unhide S]⟩
        case measure => simp [intOf]; omega
    · obtain rfl : k = 10 := by omega
      rw [show addTo x0 x1 x2 x3 x4 x5 x6 x7 x8 x9 y0 y1 y2 y3 y4 y5 y6 y7 y8 y9 10 = [x0 + y0, x1 + y1, x2 + y2, x3 + y3, x4 + y4, x5 + y5, x6 + y6, x7 + y7, x8 + y8, x9 + y9] from rfl]
      have hB2 := hB d
      clear hB
      go_wp2_with fail
      refine (carry_any _ _ _ [] (x0 + y0) (x1 + y1) (x2 + y2) (x3 + y3) (x4 + y4) (x5 + y5) (x6 + y6) (x7 + y7) (x8 + y8) (x9 + y9) hB2 (near_add (unhide HXI) (unhide HYI))).mono ?_
      rintro e w2 ⟨rfl, z0, z1, z2, z3, z4, z5, z6, z7, z8, z9, rfl, hin, q, hq⟩
      have HIN := hide hin
      have HQ := hide hq
      clear hin hq
      go_wp2
      go_ret
      refine ⟨rfl, below_row _ _ _ _ _ _ (below_adds ((Below.refl _ _).alloc (Nat.le_refl _) _) (by simp) _ _) (Nat.le_refl _), z0, z1, z2, z3, z4, z5, z6, z7, z8, z9, [], get_row _ _ _ _ _ _ hB2, unhide HIN, ?_⟩
      have e1 : V10 (x0 + y0) (x1 + y1) (x2 + y2) (x3 + y3) (x4 + y4) (x5 + y5) (x6 + y6) (x7 + y7) (x8 + y8) (x9 + y9) = V10 x0 x1 x2 x3 x4 x5 x6 x7 x8 x9 + V10 y0 y1 y2 y3 y4 y5 y6 y7 y8 y9 := by unfold V10; omega
      have e2 := unhide HQ
      rw [e1] at e2
      have e3 : V10 z0 z1 z2 z3 z4 z5 z6 z7 z8 z9 % pInt = (V10 x0 x1 x2 x3 x4 x5 x6 x7 x8 x9 + V10 y0 y1 y2 y3 y4 y5 y6 y7 y8 y9) % pInt := by rw [e2, Int.add_mul_emod_self_left]
      rw [e3]
      exact mod_add (unhide HXV) (unhide HYV)
def subTo (x0 x1 x2 x3 x4 x5 x6 x7 x8 x9 y0 y1 y2 y3 y4 y5 y6 y7 y8 y9 : Int) (k : Nat) : List Int := (List.range 10).map (fun j => if j < k then [x0, x1, x2, x3, x4, x5, x6, x7, x8, x9].getD j 0 - [y0, y1, y2, y3, y4, y5, y6, y7, y8, y9].getD j 0 else 0)
theorem subTo_succ (x0 x1 x2 x3 x4 x5 x6 x7 x8 x9 y0 y1 y2 y3 y4 y5 y6 y7 y8 y9 : Int) (k : Nat) : subTo x0 x1 x2 x3 x4 x5 x6 x7 x8 x9 y0 y1 y2 y3 y4 y5 y6 y7 y8 y9 (k + 1) = (subTo x0 x1 x2 x3 x4 x5 x6 x7 x8 x9 y0 y1 y2 y3 y4 y5 y6 y7 y8 y9 k).set k ([x0, x1, x2, x3, x4, x5, x6, x7, x8, x9].getD k 0 - [y0, y1, y2, y3, y4, y5, y6, y7, y8, y9].getD k 0) := by
  apply List.ext_getElem
  · simp [subTo]
  · intro i h1 h2
    have hi : i < 10 := by simpa [subTo] using h1
    by_cases e : k = i
    · subst e
      rw [List.getElem_set_self]
      simp [subTo]
    · rw [List.getElem_set_ne e]
      simp only [subTo, List.getElem_map, List.getElem_range]
      by_cases hik : i < k
      · rw [if_pos (by omega), if_pos hik]
      · rw [if_neg (by omega), if_neg hik]
theorem sub_any (w : World) (ba bb ca cb : Nat) (u v : Int) (ha : Row10 w ba u) (hb : Row10 w bb v) :
    Calls Try.prog 56 #[.slice (some ⟨ba, 0, none⟩) 10 ca, .slice (some ⟨bb, 0, none⟩) 10 cb] w fun e w' => e = .returned (.slice (some ⟨w.heap.size, 0, none⟩) 10 10) ∧ Below w.heap.size w w' ∧ Row10 w' w.heap.size (u - v) := by
  have la := ha.lt
  have lb := hb.lt
  obtain ⟨x0, x1, x2, x3, x4, x5, x6, x7, x8, x9, ra, hra, hxi, hxv⟩ := ha
  obtain ⟨y0, y1, y2, y3, y4, y5, y6, y7, y8, y9, rb, hrb, hyi, hyv⟩ := hb
  have hm := make10
  have HXA := hide hra
  have HXB := hide hrb
  have HXI := hide hxi
  have HYI := hide hyi
  have HXV := hide hxv
  have HYV := hide hyv
  clear hra hrb hxi hyi hxv hyv
  go_enter Try.func56, Try.ntmps56
  go_wp2
  clear hm
  rw [start10]
  go_loopw [6] (fun c wr => ∃ k : Nat, k ≤ 10 ∧ c = .int .i64 k ∧ ∃ d, wr = rowL (adds (w.alloc Z10) #[] d) w.heap.size 3 .i64 (subTo x0 x1 x2 x3 x4 x5 x6 x7 x8 x9 y0 y1 y2 y3 y4 y5 y6 y7 y8 y9 k) []) (fun c _ => 10 - (intOf c).toNat)
  case atStart => exact ⟨0, by omega, rfl, _, rfl⟩
  case round =>
    obtain ⟨k, hk, rfl, d, rfl⟩ := hrel
    have hB : ∀ d, w.heap.size < (adds (w.alloc Z10) #[] d).heap.size := fun d => by rw [size_adds]; simp
    by_cases hlt : k < 10
    · have hl : (subTo x0 x1 x2 x3 x4 x5 x6 x7 x8 x9 y0 y1 y2 y3 y4 y5 y6 y7 y8 y9 k).length = 10 := by simp [subTo]
      have S := hide (subTo_succ x0 x1 x2 x3 x4 x5 x6 x7 x8 x9 y0 y1 y2 y3 y4 y5 y6 y7 y8 y9 k)
      generalize subTo x0 x1 x2 x3 x4 x5 x6 x7 x8 x9 y0 y1 y2 y3 y4 y5 y6 y7 y8 y9 k = zs at *
      have hc1 : ∀ d, (rowL (adds (w.alloc Z10) #[] d) w.heap.size 3 .i64 zs []).cell? ⟨ba, k, none⟩ = some (.int .i64 ([x0, x1, x2, x3, x4, x5, x6, x7, x8, x9].getD k 0)) := fun d => by
        rw [cell_row_other _ _ _ _ _ _ _ _ (by omega), World.cell?_of_block (w := w) (get_adds_alloc w d ba la)]
        exact row_cell (unhide HXA) k (by simpa using hlt)
      have hc2 : ∀ d, (rowL (adds (w.alloc Z10) #[] d) w.heap.size 3 .i64 zs []).cell? ⟨bb, k, none⟩ = some (.int .i64 ([y0, y1, y2, y3, y4, y5, y6, y7, y8, y9].getD k 0)) := fun d => by
        rw [cell_row_other _ _ _ _ _ _ _ _ (by omega), World.cell?_of_block (w := w) (get_adds_alloc w d bb lb)]
        exact row_cell (unhide HXB) k (by simpa using hlt)
      have hc3 : ∀ d, (rowL (adds (w.alloc Z10) #[] d) w.heap.size 3 .i64 zs []).cell? ⟨w.heap.size, k, none⟩ = some (.int .i64 (zs.getD k 0)) := fun d => cell_row _ _ _ _ _ _ _ (by omega) (hB d)
      have hf1 : ∀ d, (rowL (adds (w.alloc Z10) #[] d) w.heap.size 3 .i64 zs []).frozen? ⟨w.heap.size, k, none⟩ = false := fun d => frozen_row _ _ _ _ _ _ _ (hB d)
      have hs1 : ∀ d v, (rowL (adds (w.alloc Z10) #[] d) w.heap.size 3 .i64 zs []).setCell ⟨w.heap.size, k, none⟩ (.int .i64 v) = rowL (adds (w.alloc Z10) #[] d) w.heap.size 3 .i64 (zs.set k v) [] := fun d v => set_row _ _ _ _ _ _ _ v (by omega) (hB d)
      have bX := in_getD (unhide HXI) k
      have bY := in_getD (unhide HYI) k
      clear hB
      generalize [x0, x1, x2, x3, x4, x5, x6, x7, x8, x9].getD k 0 = A at *
      generalize [y0, y1, y2, y3, y4, y5, y6, y7, y8, y9].getD k 0 = C at *
      generalize zs.getD k 0 = D at *
      go_wp2
      go_region
      go_wp2
      all_goals
        go_roundw
        case rel => exact ⟨k + 1, by omega, by go_num, d + 1, by rw [unhide S]⟩
        case measure => simp [intOf]; omega
    · obtain rfl : k = 10 := by omega
      rw [show subTo x0 x1 x2 x3 x4 x5 x6 x7 x8 x9 y0 y1 y2 y3 y4 y5 y6 y7 y8 y9 10 = [x0 - y0, x1 - y1, x2 - y2, x3 - y3, x4 - y4, x5 - y5, x6 - y6, x7 - y7, x8 - y8, x9 - y9] from rfl]
      have hB2 := hB d
      clear hB
      go_wp2_with fail
      refine (carry_any _ _ _ [] (x0 - y0) (x1 - y1) (x2 - y2) (x3 - y3) (x4 - y4) (x5 - y5) (x6 - y6) (x7 - y7) (x8 - y8) (x9 - y9) hB2 (near_sub (unhide HXI) (unhide HYI))).mono ?_
      rintro e w2 ⟨rfl, z0, z1, z2, z3, z4, z5, z6, z7, z8, z9, rfl, hin, q, hq⟩
      have HIN := hide hin
      have HQ := hide hq
      clear hin hq
      go_wp2
      go_ret
      refine ⟨rfl, below_row _ _ _ _ _ _ (below_adds ((Below.refl _ _).alloc (Nat.le_refl _) _) (by simp) _ _) (Nat.le_refl _), z0, z1, z2, z3, z4, z5, z6, z7, z8, z9, [], get_row _ _ _ _ _ _ hB2, unhide HIN, ?_⟩
      have e1 : V10 (x0 - y0) (x1 - y1) (x2 - y2) (x3 - y3) (x4 - y4) (x5 - y5) (x6 - y6) (x7 - y7) (x8 - y8) (x9 - y9) = V10 x0 x1 x2 x3 x4 x5 x6 x7 x8 x9 - V10 y0 y1 y2 y3 y4 y5 y6 y7 y8 y9 := by unfold V10; omega
      have e2 := unhide HQ
      rw [e1] at e2
      have e3 : V10 z0 z1 z2 z3 z4 z5 z6 z7 z8 z9 % pInt = (V10 x0 x1 x2 x3 x4 x5 x6 x7 x8 x9 - V10 y0 y1 y2 y3 y4 y5 y6 y7 y8 y9) % pInt := by rw [e2, Int.add_mul_emod_self_left]
      rw [e3]
      exact mod_sub (unhide HXV) (unhide HYV)
end Go.Proofs.Ytncplefjokbbjaa
