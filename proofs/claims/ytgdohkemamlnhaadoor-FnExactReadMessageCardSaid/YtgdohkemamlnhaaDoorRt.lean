/- The specification's ReadMessage. -/
import Derived.Test.YtgdohkemamlnhaaDoorRs
namespace Go.Proofs.YtgdohkemamlnhaaDoor
open Go.RowKit
set_option maxHeartbeats 4000000
set_option maxRecDepth 20000
theorem rd_short (A : Option Addr) (n cap : Nat) (hn : n ≠ 64) (w : World) :
    Calls Tryd.prog 27 #[.slice A n cap] w fun e w' => e = .returned (.tuple #[zeroM, .bool false]) ∧ Below w.heap.size w w' := by
  have q : ¬ ((n : Int) = 64) := by omega
  have N1 := hide (heap_at w (.cells #[.int .i64 0, .int .i64 0, .int .i64 0, .string ⟨#[]⟩, .string ⟨#[]⟩] 24) w.heap.size rfl)
  have B1 := hide (show Below w.heap.size w (w.alloc (.cells #[.int .i64 0, .int .i64 0, .int .i64 0, .string ⟨#[]⟩, .string ⟨#[]⟩] 24)) from bl_al (Below.refl _ _))
  clear hn
  go_enter Tryd.func27, Tryd.ntmps27
  go_wp2
  refine bodyPost_ret (v := .tuple #[zeroM, .bool false]) (results_tmp_row rfl _ _ w.heap.size 24 _ (0, 0) _ _ rfl rfl (unhide N1) Tryd.underlying24 rfl (by kernel_rfl)) rfl ⟨rfl, ?_⟩
  exact unhide B1
theorem rd_big (g off cap : Nat) (x : Int) (h40 : 40 < x) (h256 : x < 256) (w : World) (hg : g < w.heap.size) (hx : w.cell? ⟨g, off + 16, none⟩ = some (.int .u8 x)) :
    Calls Tryd.prog 27 #[.slice (some ⟨g, off, none⟩) 64 cap] w fun e w' => e = .returned (.tuple #[zeroM, .bool false]) ∧ Below w.heap.size w w' := by
  have N1 := hide (heap_at w (.cells #[.int .i64 0, .int .i64 0, .int .i64 0, .string ⟨#[]⟩, .string ⟨#[]⟩] 24) w.heap.size rfl)
  have B1 := hide (show Below w.heap.size w (w.alloc (.cells #[.int .i64 0, .int .i64 0, .int .i64 0, .string ⟨#[]⟩, .string ⟨#[]⟩] 24)) from bl_al (Below.refl _ _))
  have c1 := (cellB (unhide B1) hg).trans hx
  clear hx hg
  go_enter Tryd.func27, Tryd.ntmps27
  go_wp2
  refine bodyPost_ret (v := .tuple #[zeroM, .bool false]) (results_tmp_row rfl _ _ w.heap.size 24 _ (0, 0) _ _ rfl rfl (unhide N1) Tryd.underlying24 rfl (by kernel_rfl)) rfl ⟨rfl, ?_⟩
  exact unhide B1
/-- what l05Read hands back -/
theorem rd_any (v : Value) (xs : List Int) (h6 : ¬ 65536 < xs.length) (w : World) (hv : bytesC w v xs) :
    ∃ (ok : Bool) (r s a : Int) (d t : ByteArray), (Calls Tryd.prog 27 #[v] w fun e w' => e = .returned (.tuple #[msgV r s a d t, .bool ok]) ∧ Below w.heap.size w w') ∧ spM xs = if ok = true then (msgV r s a d t, 0) else (zeroM, 3) := by
  obtain ⟨A, cap, rfl, hc, hB, hr⟩ := hv
  obtain ⟨x0, x1⟩ := hB.at 16
  by_cases hl : xs.length = 64
  · rcases hr with ⟨_, rfl⟩ | ⟨g, off, rfl, hr⟩
    · simp at hl
    · by_cases hx : xs.getD 16 0 ≤ 40
      · have hk : xs.getD 16 0 = ((xs.getD 16 0).toNat : Int) := by omega
        have := rd_ok g off cap (by omega) xs hl hB (xs.getD 16 0).toNat hk (by omega) w hr
        refine ⟨_, _, _, _, _, _, by rw [hl]; exact this, ?_⟩
        unfold spM
        rw [if_neg h6]
        cases hk : rokM xs (xs.getD 16 0).toNat
        · rw [if_neg (by simp), if_neg (by simp)]
        · rw [if_pos ⟨hl, hx, rfl⟩, if_pos rfl]
      · refine ⟨false, 0, 0, 0, ⟨#[]⟩, ⟨#[]⟩, by rw [hl]; exact rd_big g off cap (xs.getD 16 0) (by omega) x1 w hr.lt (hr.cell 16 (by omega)), ?_⟩
        unfold spM
        rw [if_neg h6, if_neg (fun h => hx h.2.1)]
        rfl
  · refine ⟨false, 0, 0, 0, ⟨#[]⟩, ⟨#[]⟩, rd_short A _ cap hl w, ?_⟩
    unfold spM
    rw [if_neg h6, if_neg (fun h => hl h.1)]
    rfl
theorem rm7 (v : Value) (xs : List Int) (w : World) (hn : xs.length ≤ 2097152) (hv : bytesC w v xs) :
    Calls Tryd.prog 7 #[v] w fun e w' => e = .returned (.tuple #[(spM xs).1, .int .i64 (spM xs).2]) ∧ Below w.heap.size w w' := by
  have N1 := hide (heap_at w (.cells #[.int .i64 0, .int .i64 0, .int .i64 0, .string ⟨#[]⟩, .string ⟨#[]⟩] 24) w.heap.size rfl)
  have B1 := hide (show Below w.heap.size w (w.alloc (.cells #[.int .i64 0, .int .i64 0, .int .i64 0, .string ⟨#[]⟩, .string ⟨#[]⟩] 24)) from bl_al (Below.refl _ _))
  by_cases h6 : 65536 < xs.length
  · have e : spM xs = (zeroM, 2) := by unfold spM; rw [if_pos h6]
    rw [e]
    obtain ⟨A, cap, rfl, _, _, _⟩ := hv
    have q : (65536 : Int) < (xs.length : Int) := by omega
    clear h6 e
    go_enter Tryd.func7, Tryd.ntmps7
    go_wp2
    refine bodyPost_ret (v := .tuple #[zeroM, .int .i64 2]) (results_tmp_row rfl _ _ w.heap.size 24 _ (0, 0) _ _ rfl rfl (unhide N1) Tryd.underlying24 rfl (by kernel_rfl)) rfl ⟨rfl, ?_⟩
    exact unhide B1
  · obtain ⟨ok, r, s, a, d, t, h27, e⟩ := rd_any v xs h6 _ (hv.below (unhide B1))
    rw [e]
    have H27 := hide h27
    obtain ⟨A, cap, rfl, _, _, _⟩ := hv
    have q : (xs.length : Int) ≤ 65536 := by omega
    clear h6 e h27
    cases ok
    · go_enter Tryd.func7, Tryd.ntmps7
      go_wp2_with fail
      refine (unhide H27).mono ?_
      rintro e w1 ⟨rfl, b1⟩
      have n1 : w1.heap[w.heap.size]? = some (.cells #[.int .i64 0, .int .i64 0, .int .i64 0, .string ⟨#[]⟩, .string ⟨#[]⟩] 24 (0, 0)) := (b1.block _ (Array.getElem?_eq_some_iff.1 (unhide N1)).1).trans (unhide N1)
      have n2 : (w1.alloc (.cells #[.int .i64 r, .int .i64 s, .int .i64 a, .string d, .string t] 24)).heap[w.heap.size]? = some (.cells #[.int .i64 0, .int .i64 0, .int .i64 0, .string ⟨#[]⟩, .string ⟨#[]⟩] 24 (0, 0)) := (Below.block (bl_al (Below.refl w1.heap.size w1)) _ (Array.getElem?_eq_some_iff.1 n1).1).trans n1
      have p0 : (w1.alloc (.cells #[.int .i64 r, .int .i64 s, .int .i64 a, .string d, .string t] 24)).cell? ⟨w.heap.size, 0, none⟩ = some (.int .i64 0) := row_cell n2
      have p1 : (w1.alloc (.cells #[.int .i64 r, .int .i64 s, .int .i64 a, .string d, .string t] 24)).cell? ⟨w.heap.size, 1, none⟩ = some (.int .i64 0) := row_cell n2
      have p2 : (w1.alloc (.cells #[.int .i64 r, .int .i64 s, .int .i64 a, .string d, .string t] 24)).cell? ⟨w.heap.size, 2, none⟩ = some (.int .i64 0) := row_cell n2
      have p3 : (w1.alloc (.cells #[.int .i64 r, .int .i64 s, .int .i64 a, .string d, .string t] 24)).cell? ⟨w.heap.size, 3, none⟩ = some (.string ⟨#[]⟩) := row_cell n2
      have p4 : (w1.alloc (.cells #[.int .i64 r, .int .i64 s, .int .i64 a, .string d, .string t] 24)).cell? ⟨w.heap.size, 4, none⟩ = some (.string ⟨#[]⟩) := row_cell n2
      have y0 : (w1.alloc (.cells #[.int .i64 r, .int .i64 s, .int .i64 a, .string d, .string t] 24)).frozen? ⟨w.heap.size, 0, none⟩ = false := row_free n2
      have y1 : (w1.alloc (.cells #[.int .i64 r, .int .i64 s, .int .i64 a, .string d, .string t] 24)).frozen? ⟨w.heap.size, 1, none⟩ = false := row_free n2
      have y2 : (w1.alloc (.cells #[.int .i64 r, .int .i64 s, .int .i64 a, .string d, .string t] 24)).frozen? ⟨w.heap.size, 2, none⟩ = false := row_free n2
      have y3 : (w1.alloc (.cells #[.int .i64 r, .int .i64 s, .int .i64 a, .string d, .string t] 24)).frozen? ⟨w.heap.size, 3, none⟩ = false := row_free n2
      have y4 : (w1.alloc (.cells #[.int .i64 r, .int .i64 s, .int .i64 a, .string d, .string t] 24)).frozen? ⟨w.heap.size, 4, none⟩ = false := row_free n2
      have B2 := hide (bl_al (o := .cells #[.int .i64 r, .int .i64 s, .int .i64 a, .string d, .string t] 24) ((unhide B1).trans (b1.mono (unhide B1).size)))
      have N2 := hide n2
      clear b1 n1 n2 H27 N1 B1
      go_wp2
      refine bodyPost_ret (v := .tuple #[msgV 0 0 0 ⟨#[]⟩ ⟨#[]⟩, .int .i64 3]) (results_tmp_row rfl _ _ w.heap.size 24 _ (0, 0) _ _ rfl rfl (row_set (i := 4) (v := .string ⟨#[]⟩) (row_set (i := 3) (v := .string ⟨#[]⟩) (row_set (i := 2) (v := .int .i64 0) (row_set (i := 1) (v := .int .i64 0) (row_set (i := 0) (v := .int .i64 0) (unhide N2)))))) Tryd.underlying24 rfl (by kernel_rfl)) rfl ⟨rfl, ?_⟩
      exact below_setCell (below_setCell (below_setCell (below_setCell (below_setCell (unhide B2) (Nat.le_refl _)) (Nat.le_refl _)) (Nat.le_refl _)) (Nat.le_refl _)) (Nat.le_refl _)
    · go_enter Tryd.func7, Tryd.ntmps7
      go_wp2_with fail
      refine (unhide H27).mono ?_
      rintro e w1 ⟨rfl, b1⟩
      have n1 : w1.heap[w.heap.size]? = some (.cells #[.int .i64 0, .int .i64 0, .int .i64 0, .string ⟨#[]⟩, .string ⟨#[]⟩] 24 (0, 0)) := (b1.block _ (Array.getElem?_eq_some_iff.1 (unhide N1)).1).trans (unhide N1)
      have n2 : (w1.alloc (.cells #[.int .i64 r, .int .i64 s, .int .i64 a, .string d, .string t] 24)).heap[w.heap.size]? = some (.cells #[.int .i64 0, .int .i64 0, .int .i64 0, .string ⟨#[]⟩, .string ⟨#[]⟩] 24 (0, 0)) := (Below.block (bl_al (Below.refl w1.heap.size w1)) _ (Array.getElem?_eq_some_iff.1 n1).1).trans n1
      have p0 : (w1.alloc (.cells #[.int .i64 r, .int .i64 s, .int .i64 a, .string d, .string t] 24)).cell? ⟨w.heap.size, 0, none⟩ = some (.int .i64 0) := row_cell n2
      have p1 : (w1.alloc (.cells #[.int .i64 r, .int .i64 s, .int .i64 a, .string d, .string t] 24)).cell? ⟨w.heap.size, 1, none⟩ = some (.int .i64 0) := row_cell n2
      have p2 : (w1.alloc (.cells #[.int .i64 r, .int .i64 s, .int .i64 a, .string d, .string t] 24)).cell? ⟨w.heap.size, 2, none⟩ = some (.int .i64 0) := row_cell n2
      have p3 : (w1.alloc (.cells #[.int .i64 r, .int .i64 s, .int .i64 a, .string d, .string t] 24)).cell? ⟨w.heap.size, 3, none⟩ = some (.string ⟨#[]⟩) := row_cell n2
      have p4 : (w1.alloc (.cells #[.int .i64 r, .int .i64 s, .int .i64 a, .string d, .string t] 24)).cell? ⟨w.heap.size, 4, none⟩ = some (.string ⟨#[]⟩) := row_cell n2
      have y0 : (w1.alloc (.cells #[.int .i64 r, .int .i64 s, .int .i64 a, .string d, .string t] 24)).frozen? ⟨w.heap.size, 0, none⟩ = false := row_free n2
      have y1 : (w1.alloc (.cells #[.int .i64 r, .int .i64 s, .int .i64 a, .string d, .string t] 24)).frozen? ⟨w.heap.size, 1, none⟩ = false := row_free n2
      have y2 : (w1.alloc (.cells #[.int .i64 r, .int .i64 s, .int .i64 a, .string d, .string t] 24)).frozen? ⟨w.heap.size, 2, none⟩ = false := row_free n2
      have y3 : (w1.alloc (.cells #[.int .i64 r, .int .i64 s, .int .i64 a, .string d, .string t] 24)).frozen? ⟨w.heap.size, 3, none⟩ = false := row_free n2
      have y4 : (w1.alloc (.cells #[.int .i64 r, .int .i64 s, .int .i64 a, .string d, .string t] 24)).frozen? ⟨w.heap.size, 4, none⟩ = false := row_free n2
      have B2 := hide (bl_al (o := .cells #[.int .i64 r, .int .i64 s, .int .i64 a, .string d, .string t] 24) ((unhide B1).trans (b1.mono (unhide B1).size)))
      have N2 := hide n2
      clear b1 n1 n2 H27 N1 B1
      go_wp2
      refine bodyPost_ret (v := .tuple #[msgV r s a d t, .int .i64 0]) (results_tmp_row rfl _ _ w.heap.size 24 _ (0, 0) _ _ rfl rfl (row_set (i := 4) (v := .string t) (row_set (i := 3) (v := .string d) (row_set (i := 2) (v := .int .i64 a) (row_set (i := 1) (v := .int .i64 s) (row_set (i := 0) (v := .int .i64 r) (unhide N2)))))) Tryd.underlying24 rfl (by kernel_rfl)) rfl ⟨rfl, ?_⟩
      exact below_setCell (below_setCell (below_setCell (below_setCell (below_setCell (unhide B2) (Nat.le_refl _)) (Nat.le_refl _)) (Nat.le_refl _)) (Nat.le_refl _)) (Nat.le_refl _)
end Go.Proofs.YtgdohkemamlnhaaDoor
