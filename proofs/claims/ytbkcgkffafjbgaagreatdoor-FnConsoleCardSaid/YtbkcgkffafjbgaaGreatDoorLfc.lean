/- The law FnConsole. -/
import Derived.Test.YtbkcgkffafjbgaaGreatDoorFcm
import Derived.Test.YtbkcgkffafjbgaaGreatDoorDrw
import Derived.Test.YtbkcgkffafjbgaaGreatDoorAt
namespace Go.Proofs.YtbkcgkffafjbgaaGreatDoor
open Go.RowKit
set_option maxHeartbeats 4000000
set_option maxRecDepth 100000
set_option linter.unusedVariables false
theorem readV_shape (l : By) : ∃ (a : At) (c : Int), readV l = .tuple #[atV a, .int .i64 c] := by
  unfold readV
  split
  · exact ⟨⟨0, 0, [], false, false⟩, 2, rfl⟩
  · cases actR l with
    | none => exact ⟨⟨0, 0, [], false, false⟩, 3, rfl⟩
    | some a => exact ⟨a, 0, rfl⟩
theorem pre_bytes (a r : By) : ((bs (a ++ r)).extract 0 (bs a).size) = bs a := by
  rw [extract_seg, bs_size]
  simp
theorem law_lines (A B : Option Addr) (n cap m cb : Nat) (mm : Int) (w : World) (hg : Gl w) (hm : w.cell? ⟨2, 0, none⟩ = some (.int .i64 mm)) (hn : n ≤ maxLen) (hmx : m ≤ maxLen) (hA : codeAt w A n) (hB : codeAt w B m) :
    Calls Tryz.prog 3 #[.slice A n cap, .slice B m cb] w fun e w' => e = .returned (.bool true) ∧ Below w.heap.size w w' := by
  unfold maxLen at hn hmx
  have qn : (n : Int) ≤ 9223372036854775807 := by omega
  have qm : (m : Int) ≤ 9223372036854775807 := by omega
  by_cases h1 : 1048576 < n
  · have q1 : (1048576 : Int) < (n : Int) := by omega
    clear hg hm hA hB h1 hn hmx
    go_enter Tryz.func3, Tryz.ntmps3
    go_wp2
    go_ret
    exact ⟨rfl, Below.refl _ _⟩
  by_cases h2 : 1048576 < m
  · have q1 : (n : Int) ≤ 1048576 := by omega
    have q2 : (1048576 : Int) < (m : Int) := by omega
    clear hg hm hA hB h1 h2 hn hmx
    go_enter Tryz.func3, Tryz.ntmps3
    go_wp2
    go_ret
    exact ⟨rfl, Below.refl _ _⟩
  have q1 : (n : Int) ≤ 1048576 := by omega
  have q2 : (m : Int) ≤ 1048576 := by omega
  have K5 := lines5 A n cap w (by unfold maxLen; omega) hA
  have hb2 := World.block_lt_of_cell? w _ hm
  have HG := hide (fun W (b : Below w.heap.size w W) => hg.below b)
  have HMM := hide (fun W (b : Below w.heap.size w W) => (World.cell?_of_block (b.block _ hb2)).trans hm)
  have HCB := hide (fun W (b : Below w.heap.size w W) => codeAt_below hB b)
  have HM1 : Hid (m ≤ 1048576) := hide (by omega)
  clear hg hm hA hB h1 h2 hn hmx hb2
  go_enter Tryz.func3, Tryz.ntmps3
  go_wp2_with fail
  refine K5.mono ?_
  rintro e w1 ⟨g, c, lb, rfl, o1, h30, hall, b1⟩
  obtain ⟨ls, hls⟩ : ∃ ls : List By, lb = ls.map bs := ⟨lb.map (·.data.toList), by rw [List.map_map]; exact (List.map_id'' (fun x => bs_of x) lb).symm⟩
  subst hls
  have hok : ∀ x ∈ ls, okL x := fun x hx => by
    have := hall (bs x) (List.mem_map.2 ⟨x, hx, rfl⟩)
    unfold okS at this
    rw [bs_size, bs_list] at this
    exact this
  rw [List.length_map] at *
  have HCE : Hid (∀ W : World, Below w1.heap.size w1 W → ∀ j x, ls[j]? = some x → W.cell? ⟨g, j, none⟩ = some (.string (bs x))) := hide (fun W bW j x hx => by
    rcases o1.2 with ⟨e, _⟩ | ⟨g', c', cur, e, _, hr, hnc, _, hcs, ht⟩
    · cases e
    · injection e with e1 _ e3
      injection e1 with e1
      injection e1 with e1 _ _
      subst e1 e3
      have hj : j < ls.length := (List.getElem?_eq_some_iff.1 hx).1
      have hr' := (bW.block _ (Array.getElem?_eq_some_iff.1 hr).1).trans hr
      have e : cur.toList[j]? = ((ls.map bs).map Value.string)[j]? := by rw [← ht, List.getElem?_take_of_lt (by omega)]
      rw [row_cell hr', ← Array.getElem?_toList, e, List.getElem?_map, List.getElem?_map, hx]
      rfl)
  obtain ⟨nn, hnn⟩ : ∃ nn, nn = ls.length := ⟨_, rfl⟩
  rw [← hnn] at h30 ⊢
  have q3 : (nn : Int) ≤ 30 := by omega
  have HNN := hide hnn
  have HOK := hide hok
  have HB1 := hide b1
  have K6 := hide (at_one w1 B m cb 0 (nn + 1) (unhide HM1) (by omega) (by omega) (by omega) (unhide HCB w1 b1))
  clear o1 hall b1 hok hnn K5 h30
  go_wp2_with fail
  refine (unhide K6).mono ?_
  rintro e w2 ⟨k, rfl, hk, b2⟩
  have HB2 := hide (bl_st b2 (unhide HB1))
  have HB12 := hide b2
  have HK : Hid (k ≤ nn) := hide (by omega)
  have qk : (k : Int) ≤ 30 := by omega
  clear b2 K6 hk
  go_wp2_with fail
  go_loopw [7, 8, 9, 10] (fun f h wd i wr => ∃ (j : Nat), j ≤ nn ∧ i = .int .i64 j ∧ f = .string (bs (catL (ls.take j))) ∧ h = .string (bs (catL (ls.take (min j k)))) ∧ wd = .string (bs (catL (wideL (ls.take j)))) ∧ Below w1.heap.size w1 wr ∧ Below w.heap.size w wr) (fun _ _ _ i _ => nn - (intOf i).toNat)
  case atStart => exact ⟨0, by omega, rfl, by simp [catL, bs], by simp [catL, bs], by simp [catL, bs, wideL], unhide HB12, unhide HB2⟩
  case round =>
    obtain ⟨j, hj, rfl, rfl, rfl, rfl, hb1, hb⟩ := hrel
    clear HB12 HB2
    have hokt : ∀ i, ∀ x ∈ ls.take i, okL x := fun i x hx => unhide HOK x (List.mem_of_mem_take hx)
    by_cases h9 : j = nn
    · subst h9
      have elt : ls.take j = ls := by rw [unhide HNN, List.take_length]
      have emin : min j k = k := by have := unhide HK; omega
      rw [elt, emin]
      have ln := unhide HNN
      have v1 := conV_cat ls (unhide HOK) (by omega)
      have v2 := conV_cat (ls.take k) (hokt k) (by rw [List.length_take]; omega)
      have v3 := conV_cat (wideL ls) (wide_ok ls (unhide HOK)) (by rw [wide_len]; omega)
      rw [wide_same] at v3
      have L1 := cat_len ls (unhide HOK)
      have L2 := cat_len (ls.take k) (hokt k)
      have L3 := cat_len (wideL ls) (wide_ok ls (unhide HOK))
      rw [List.length_take] at L2
      rw [wide_len] at L3
      have KA := hide (fun W (b : Below w.heap.size w W) => con9 (catL ls) mm W (unhide HG W b) (unhide HMM W b) (by unfold maxLen; omega))
      have KB := hide (fun W (b : Below w.heap.size w W) => con9 (catL (ls.take k)) mm W (unhide HG W b) (unhide HMM W b) (by unfold maxLen; omega))
      have KC := hide (fun W (b : Below w.heap.size w W) => con9 (catL (wideL ls)) mm W (unhide HG W b) (unhide HMM W b) (by unfold maxLen; omega))
      have KD := hide (fun W => con10 (catL ls) W (by unfold maxLen; omega))
      rw [v1] at KA KD
      rw [v2] at KB
      rw [v3] at KC
      obtain ⟨r, hr⟩ := head_pre ls k
      have hpre := pre_bytes (linesF (ls.take k)) r
      rw [← hr] at hpre
      have hle : (bs (linesF (ls.take k))).size ≤ (bs (linesF ls)).size := by rw [bs_size, bs_size, hr]; simp
      have hcl := conF_ok ls (z := ⟨pe0, pe0⟩) [] ok2_zero
      have hsa : (bs (linesF ls)).size ≤ 1000000 := by rw [bs_size]; have := hcl.2; simp at this; unfold linesF; omega
      have hle' : ((bs (linesF (ls.take k))).size : Int) ≤ ((bs (linesF ls)).size : Int) := by omega
      have hsa' : ((bs (linesF ls)).size : Int) ≤ 1000000 := by omega
      have HB := hide hb
      generalize bs (catL ls) = x1 at *
      generalize bs (catL (ls.take k)) = x2 at *
      generalize bs (catL (wideL ls)) = x3 at *
      generalize bs (linesF ls) = sa at *
      generalize bs (linesF (ls.take k)) = sb at *
      clear hb hb1 hokt v1 v2 v3 L1 L2 L3 hr hcl elt emin ln hj hle hsa
      go_wp2_with fail
      refine (unhide KA _ (unhide HB)).mono ?_
      rintro e w3 ⟨rfl, b3⟩
      have HB3 := hide (bl_st b3 (unhide HB))
      clear b3
      go_wp2_with fail
      refine (unhide KB _ (unhide HB3)).mono ?_
      rintro e w4 ⟨rfl, b4⟩
      have HB4 := hide (bl_st b4 (unhide HB3))
      clear b4
      go_wp2_with fail
      refine (unhide KC _ (unhide HB4)).mono ?_
      rintro e w5 ⟨rfl, b5⟩
      have HB5 := hide (bl_st b5 (unhide HB4))
      clear b5
      go_wp2_with fail
      refine (unhide KD _).mono ?_
      rintro e w6 ⟨rfl, b6⟩
      have HB6 := hide (bl_st b6 (unhide HB5))
      clear b6
      go_wp2
      go_ret
      exact ⟨rfl, unhide HB6⟩
    · have hlt : j < nn := by omega
      have q4 : (j : Int) < (nn : Int) := by omega
      obtain ⟨x, hx⟩ : ∃ x, ls[j]? = some x := ⟨_, List.getElem?_eq_getElem (by rw [← unhide HNN]; exact hlt)⟩
      have cc := unhide HCE wr hb1 j x hx
      have hox := unhide HOK x (List.mem_of_getElem? hx)
      have ets : ls.take (j + 1) = ls.take j ++ [x] := by rw [List.take_add_one, hx]; rfl
      have ef : bs (catL (ls.take j)) ++ (bs x ++ ⟨#[10]⟩) = bs (catL (ls.take (j + 1))) := by
        rw [ets, cat_snoc]; apply ByteArray.ext; simp [bs]
      have ew : bs (catL (wideL (ls.take j))) ++ (⟨#[35, 32, 110, 111, 116, 104, 105, 110, 103, 10]⟩ ++ bs x ++ ⟨#[10]⟩) = bs (catL (wideL (ls.take (j + 1)))) := by
        rw [ets, wide_snoc]; apply ByteArray.ext; simp [bs, catL, noteB]
      have L1 := cat_len (ls.take j) (hokt j)
      have L2 := cat_len (ls.take (min j k)) (hokt _)
      have L3 := cat_len (wideL (ls.take j)) (wide_ok _ (hokt j))
      rw [wide_len, List.length_take] at L3
      rw [List.length_take] at L1 L2
      have z0 : (bs x).size ≤ 60 := by rw [bs_size]; exact hox.1
      have z1 : (bs (catL (ls.take j))).size ≤ 4000 := by rw [bs_size]; omega
      have z2 : (bs (catL (ls.take (min j k)))).size ≤ 4000 := by rw [bs_size]; omega
      have z3 : (bs (catL (wideL (ls.take j)))).size ≤ 8000 := by rw [bs_size]; omega
      have hxl : x.length ≤ maxLen := by have := hox.1; unfold maxLen; omega
      have K7 := hide (fun W (b : Below w.heap.size w W) => read5 x W (unhide HG W b).1 hxl)
      have K8 := hide (fun W => read4 x W hxl)
      have HCJ := hide (fun W (b : Below w1.heap.size w1 W) => unhide HCE W b j x hx)
      obtain ⟨a, ca, hra⟩ := readV_shape x
      rw [hra] at K7 K8
      obtain ⟨ka, wa, xa, la, lba⟩ := a
      unfold atV atA at K7 K8
      simp only [] at K7 K8
      have HB := hide hb
      have HBB := hide hb1
      have HEF := hide ef
      have HEW := hide ew
      have HJ := hide hlt
      have HETS := hide ets
      generalize bs xa = xt at *
      clear L1 L2 L3 hox hxl hra ef ew hlt h9 hj hokt
      by_cases hjk : j < k
      · have qjk : (j : Int) < (k : Int) := by omega
        have eh : bs (catL (ls.take (min j k))) ++ (bs x ++ ⟨#[10]⟩) = bs (catL (ls.take (min (j + 1) k))) := by
          rw [show min j k = j by omega, show min (j + 1) k = j + 1 by omega]; exact unhide HEF
        have HEH := hide eh
        clear eh hjk hb hb1 ets hx
        generalize bs (catL (ls.take j)) = s1 at *
        generalize bs (catL (ls.take (min j k))) = s2 at *
        generalize bs (catL (wideL (ls.take j))) = s3 at *
        generalize bs x = xs at *
        go_wp2_with fail
        refine (unhide K7 _ (unhide HB)).mono ?_
        rintro e w3 ⟨rfl, b3⟩
        have HB3 := hide (bl_al (o := .cells #[.int .i64 ka, .int .i64 wa, .string xt, .bool la, .bool lba] 27) (bl_st b3 (unhide HB)))
        have HBB3 := hide (bl_al (o := .cells #[.int .i64 ka, .int .i64 wa, .string xt, .bool la, .bool lba] 27) (bl_st b3 (unhide HBB)))
        have HC3 := hide (heap_alloc_new w3 (.cells #[.int .i64 ka, .int .i64 wa, .string xt, .bool la, .bool lba] 27))
        have cc3 := unhide HCJ _ (unhide HBB3)
        clear b3 cc
        go_wp2_with fail
        refine (unhide K8 _).mono ?_
        rintro e w4 ⟨rfl, b4⟩
        have b5 := bl_al (o := .cells #[.int .i64 ka, .int .i64 wa, .string xt, .bool la, .bool lba] 27) b4
        have HB4 := hide (bl_st b5 (unhide HB3))
        have HBB4 := hide (bl_st b5 (unhide HBB3))
        have r3 := (b5.block _ (Array.getElem?_eq_some_iff.1 (unhide HC3)).1).trans (unhide HC3)
        have r4 := heap_alloc_new w4 (.cells #[.int .i64 ka, .int .i64 wa, .string xt, .bool la, .bool lba] 27)
        have y0 := row_cell (i := 0) r3
        have y1 := row_cell (i := 1) r3
        have y2 := row_cell (i := 2) r3
        have y3 := row_cell (i := 3) r3
        have y4 := row_cell (i := 4) r3
        have v0 := row_cell (i := 0) r4
        have v1 := row_cell (i := 1) r4
        have v2 := row_cell (i := 2) r4
        have v3 := row_cell (i := 3) r4
        have v4 := row_cell (i := 4) r4
        simp only [List.getElem?_toArray, List.getElem?_cons_succ, List.getElem?_cons_zero] at y0 y1 y2 y3 y4 v0 v1 v2 v3 v4
        clear b4 b5 r3 r4 cc3
        go_wp2_with fail
        go_round
        case rel => exact ⟨j + 1, unhide HJ, by go_num, by rw [unhide HEF], by rw [unhide HEH], by rw [unhide HEW], unhide HBB4, unhide HB4⟩
        case measure => have := unhide HJ; simp [intOf]; omega
      · have qjk : (k : Int) ≤ (j : Int) := by omega
        have eh : bs (catL (ls.take (min j k))) = bs (catL (ls.take (min (j + 1) k))) := by
          rw [show min j k = k by omega, show min (j + 1) k = k by omega]
        have HEH := hide eh
        clear eh hjk hb hb1 ets hx
        generalize bs (catL (ls.take j)) = s1 at *
        generalize bs (catL (ls.take (min j k))) = s2 at *
        generalize bs (catL (wideL (ls.take j))) = s3 at *
        generalize bs x = xs at *
        go_wp2_with fail
        refine (unhide K7 _ (unhide HB)).mono ?_
        rintro e w3 ⟨rfl, b3⟩
        have HB3 := hide (bl_al (o := .cells #[.int .i64 ka, .int .i64 wa, .string xt, .bool la, .bool lba] 27) (bl_st b3 (unhide HB)))
        have HBB3 := hide (bl_al (o := .cells #[.int .i64 ka, .int .i64 wa, .string xt, .bool la, .bool lba] 27) (bl_st b3 (unhide HBB)))
        have HC3 := hide (heap_alloc_new w3 (.cells #[.int .i64 ka, .int .i64 wa, .string xt, .bool la, .bool lba] 27))
        have cc3 := unhide HCJ _ (unhide HBB3)
        clear b3 cc
        go_wp2_with fail
        refine (unhide K8 _).mono ?_
        rintro e w4 ⟨rfl, b4⟩
        have b5 := bl_al (o := .cells #[.int .i64 ka, .int .i64 wa, .string xt, .bool la, .bool lba] 27) b4
        have HB4 := hide (bl_st b5 (unhide HB3))
        have HBB4 := hide (bl_st b5 (unhide HBB3))
        have r3 := (b5.block _ (Array.getElem?_eq_some_iff.1 (unhide HC3)).1).trans (unhide HC3)
        have r4 := heap_alloc_new w4 (.cells #[.int .i64 ka, .int .i64 wa, .string xt, .bool la, .bool lba] 27)
        have y0 := row_cell (i := 0) r3
        have y1 := row_cell (i := 1) r3
        have y2 := row_cell (i := 2) r3
        have y3 := row_cell (i := 3) r3
        have y4 := row_cell (i := 4) r3
        have v0 := row_cell (i := 0) r4
        have v1 := row_cell (i := 1) r4
        have v2 := row_cell (i := 2) r4
        have v3 := row_cell (i := 3) r4
        have v4 := row_cell (i := 4) r4
        simp only [List.getElem?_toArray, List.getElem?_cons_succ, List.getElem?_cons_zero] at y0 y1 y2 y3 y4 v0 v1 v2 v3 v4
        clear b4 b5 r3 r4 cc3
        go_wp2_with fail
        go_round
        case rel => exact ⟨j + 1, unhide HJ, by go_num, by rw [unhide HEF], by rw [unhide HEH], by rw [unhide HEW], unhide HBB4, unhide HB4⟩
        case measure => have := unhide HJ; simp [intOf]; omega
end Go.Proofs.YtbkcgkffafjbgaaGreatDoor
