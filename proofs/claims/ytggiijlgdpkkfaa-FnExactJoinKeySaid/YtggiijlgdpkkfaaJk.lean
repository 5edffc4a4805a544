/- JoinKey on both sides, and the law. -/
import Derived.Test.YtggiijlgdpkkfaaLst
import Derived.Deep.RegionHeldLaw
namespace Go.Proofs.Ytggiijlgdpkkfaa
open Go.RowKit
set_option maxHeartbeats 4000000
set_option maxRecDepth 20000
def x8 (a b : Int) : Int := bits .xor .u8 a b
theorem x8_eq (a b : Int) : bits .xor .u8 a b = x8 a b := rfl
theorem x8_bd {a b : Int} (ha : 0 ≤ a ∧ a < 256) (hb : 0 ≤ b ∧ b < 256) : 0 ≤ x8 a b ∧ x8 a b < 256 := by
  unfold x8
  rw [u8_xor a b ha.1 ha.2 hb.1 hb.2]
  have := Nat.xor_lt_two_pow (n := 8) (show a.toNat < 2 ^ 8 by omega) (show b.toNat < 2 ^ 8 by omega)
  omega
/-- a key, exclusive-ored with a share -/
def xL (a : List Int) (t : ByteArray) : List Int := (List.range a.length).map fun i => x8 (a.getD i 0) (bt t i)
theorem xL_len (a : List Int) (t : ByteArray) : (xL a t).length = a.length := by simp [xL]
theorem xL_at (a : List Int) (t : ByteArray) (i : Nat) (h : i < a.length) : (xL a t).getD i 0 = x8 (a.getD i 0) (bt t i) := by
  rw [List.getD_eq_getElem?_getD, xL, List.getElem?_map, List.getElem?_range h]; rfl
theorem xL_isB (a : List Int) (t : ByteArray) (h : isB a) : isB (xL a t) := by
  intro x hx
  obtain ⟨i, _, rfl⟩ := List.mem_map.1 hx
  exact x8_bd (h.at i) (bt_bd t i)
def jkL (ts : List ByteArray) : List Int := ts.foldl xL (List.replicate 32 0)
theorem foldl_xL (ts : List ByteArray) : ∀ a, isB a → (ts.foldl xL a).length = a.length ∧ isB (ts.foldl xL a) := by
  induction ts with
  | nil => intro a h; exact ⟨rfl, h⟩
  | cons t ts ih => intro a h; exact ⟨((ih _ (xL_isB a t h)).1).trans (xL_len a t), (ih _ (xL_isB a t h)).2⟩
theorem zero_isB : isB (List.replicate 32 (0 : Int)) := by intro x hx; obtain ⟨_, rfl⟩ := List.mem_replicate.1 hx; omega
theorem jkL_len (ts : List ByteArray) : (jkL ts).length = 32 := ((foldl_xL ts _ zero_isB).1).trans (by simp)
theorem jkL_isB (ts : List ByteArray) : isB (jkL ts) := (foldl_xL ts _ zero_isB).2
theorem jkL_step (ts : List ByteArray) (j : Nat) (h : j < ts.length) : jkL (ts.take (j + 1)) = xL (jkL (ts.take j)) (ts.getD j noS) := by
  rw [← List.take_append_getElem h, jkL, List.foldl_append, List.getD_eq_getElem?_getD, List.getElem?_eq_getElem h]
  rfl
theorem cell_rowK {w : World} {g : Nat} {e : TypeId} {k : IntKind} {xs : List Int} {rest : List Value} (h : w.heap[g]? = some (rowObj e k xs rest)) (i : Nat) (hi : i < xs.length) : w.cell? ⟨g, i, none⟩ = some (.int k (xs.getD i 0)) := by
  rw [← row_same w g e k xs rest h]
  exact cell_row _ _ _ _ _ _ _ hi (Array.getElem?_eq_some_iff.1 h).1
theorem free_rowK {w : World} {g : Nat} {e : TypeId} {k : IntKind} {xs : List Int} {rest : List Value} (h : w.heap[g]? = some (rowObj e k xs rest)) (i : Nat) : w.frozen? ⟨g, i, none⟩ = false := by
  unfold World.frozen?
  rw [show (⟨g, i, none⟩ : Addr).block = g from rfl, h]
  simp [rowObj]
theorem set_rowK {w : World} {g : Nat} {e : TypeId} {k : IntKind} {xs : List Int} {rest : List Value} (h : w.heap[g]? = some (rowObj e k xs rest)) (i : Nat) (v : Int) (hi : i < xs.length) : (w.setCell ⟨g, i, none⟩ (.int k v)).heap[g]? = some (rowObj e k (xs.set i v) rest) := by
  have e : (xs.map (Value.int k) ++ rest).set i (.int k v) = (xs.set i v).map (Value.int k) ++ rest := by
    rw [List.set_append_left _ _ (by simpa using hi), List.map_set]
  simp only [World.setCell, Array.getElem?_modify, if_true, h, Option.map_some, rowObj]
  simp [e]
theorem joined54 (v : Value) (ts : List ByteArray) (w : World) (hv : strsV w v ts) (hn : ts.length ≤ 16) (hk : ∀ i, i < ts.length → (ts.getD i noS).size = 32) :
    Calls Try.prog 54 #[v] w fun e w' => e = .returned (.string (strOfNums (jkL ts))) ∧ Below w.heap.size w w' := by
  obtain ⟨A, cap, rfl, hc⟩ := hv
  have HC := hide hc
  have HK := hide hk
  have n0 : (0 : Int) ≤ (ts.length : Int) := by omega
  have n1 : (ts.length : Int) ≤ 16 := by omega
  clear hc hk hn
  go_enter Try.func54, Try.ntmps54
  go_wp2
  go_loopw [9] (fun i wr => ∃ j : Nat, j ≤ ts.length ∧ i = .int .i64 j ∧ wr.heap[w.heap.size]? = some (rowObj 89 .u8 (jkL (ts.take j)) []) ∧ Below w.heap.size w wr) (fun i _ => ts.length - (intOf i).toNat)
  case atStart => exact ⟨0, by omega, rfl, heap_at _ _ _ rfl, bl_al (Below.refl _ _)⟩
  case round =>
    obtain ⟨j, hj, rfl, hrow, hbl⟩ := hrel
    by_cases hlt : j < ts.length
    · obtain ⟨b, off, hA, hbb, hcell⟩ := unhide HC (by omega)
      subst hA
      have q1 : (j : Int) < (ts.length : Int) := by omega
      have q0 : (0 : Int) ≤ (j : Int) := by omega
      have p0 : wr.cell? ⟨b, off + j, none⟩ = some (.string (ts.getD j noS)) := (cell_below hbl hbb).trans (hcell j hlt)
      have HS := hide (unhide HK j hlt)
      have HJ := hide hlt
      have HT := hide (jkL_step ts j hlt)
      have HL := hide (jkL_len (ts.take j))
      have HR := hide hrow
      have HB := hide hbl
      clear hcell hlt hj hbb hrow hbl
      generalize ts.getD j noS = t at *
      generalize jkL (ts.take j) = a at *
      go_wp2
      go_loopw [13] (fun i w2 => ∃ k : Nat, k ≤ 32 ∧ i = .int .i64 k ∧ w2.heap[w.heap.size]? = some (rowObj 89 .u8 (mixL (xL a t) a k) []) ∧ Below w.heap.size w w2) (fun i _ => 32 - (intOf i).toNat)
      case atStart => exact ⟨0, by omega, rfl, by rw [mixL_zero]; exact unhide HR, unhide HB⟩
      case round =>
        obtain ⟨k, hk, rfl, hrow, hbl⟩ := hrel
        by_cases hlt : k < 32
        · have q3 : (k : Int) < 32 := by omega
          have q2 : (0 : Int) ≤ (k : Int) := by omega
          have ix := fun W => index_bt t k (by have := unhide HS; omega) W
          have p1 := cell_rowK hrow k (by rw [mixL_len _ _ _ (xL_len _ _), unhide HL]; exact hlt)
          rw [mixL_at _ _ _ (xL_len _ _) (by rw [unhide HL]; exact hlt)] at p1
          have p2 := free_rowK hrow k
          have p3 := set_rowK hrow k (x8 (a.getD k 0) (bt t k)) (by rw [mixL_len _ _ _ (xL_len _ _), unhide HL]; exact hlt)
          rw [← xL_at a t k (by rw [unhide HL]; exact hlt), mixL_succ _ _ _ (xL_len _ _) (by rw [unhide HL]; exact hlt), xL_at a t k (by rw [unhide HL]; exact hlt)] at p3
          have P3 := hide p3
          have B3 := hide (bl_set (i := k) (v := .int .u8 (x8 (a.getD k 0) (bt t k))) hbl (Nat.le_refl _))
          have HKK := hide hlt
          clear hlt hk hrow hbl p3 HR HB
          generalize a.getD k 0 = x at *
          generalize bt t k = y at *
          go_wp2
          go_region
          rw [x8_eq]
          have F4 : Hid ((wr.setCell ⟨w.heap.size, k, none⟩ (.int .u8 (x8 x y))).drew.heap[w.heap.size]? = some (rowObj 89 .u8 (mixL (xL a t) a (k + 1)) []) ∧ Below w.heap.size w (wr.setCell ⟨w.heap.size, k, none⟩ (.int .u8 (x8 x y))).drew) := hide ⟨unhide P3, bl_dr (unhide B3)⟩
          clear P3 B3 p1 p2 ix
          generalize (wr.setCell ⟨w.heap.size, k, none⟩ (.int .u8 (x8 x y))).drew = Z at *
          go_wp2
          go_roundw
          case rel => exact ⟨k + 1, unhide HKK, by go_num, (unhide F4).1, (unhide F4).2⟩
          case measure => have := unhide HKK; simp [intOf]; omega
        · obtain rfl : k = 32 := by omega
          have hm := mixL_all (xL a t) a (xL_len _ _)
          rw [unhide HL] at hm
          rw [hm, ← unhide HT] at hrow
          have HR2 := hide hrow
          have HB2 := hide hbl
          clear hrow hbl hm hlt hk HR HB p0
          go_wp2
          go_roundw
          case rel => exact ⟨j + 1, unhide HJ, by go_num, unhide HR2, unhide HB2⟩
          case measure => have := unhide HJ; simp [intOf]; omega
    · obtain rfl : j = ts.length := by omega
      rw [List.take_length] at hrow
      have RA : rowAt wr w.heap.size 0 (jkL ts) := ⟨(Array.getElem?_eq_some_iff.1 hrow).1, fun i hi => by rw [Nat.zero_add]; exact cell_rowK hrow i hi⟩
      have cv := RA.conv 32 32 (jkL_len ts).symm
      have HB := hide hbl
      clear hrow hbl RA hlt
      go_wp2
      go_ret
      exact ⟨rfl, unhide HB⟩
def jkC (ts : List ByteArray) : Int := if 4096 < ts.length then 2 else if ts.length < 1 ∨ 16 < ts.length then 4 else if ts.all isK then 0 else 1
def jkS (ts : List ByteArray) : ByteArray := if jkC ts = 0 then strOfNums (jkL ts) else noS
/-- what a call of JoinKey answers -/
def outK (W : World) (s : ByteArray) (c : Int) (e : Ending) (w' : World) : Prop := e = .returned (.tuple #[.string s, .int .i64 c]) ∧ Below W.heap.size W w'
theorem keys51 (n : Int) (w : World) : Calls Try.prog 51 #[.int .i64 n] w fun e w' => e = .returned (.bool (decide (1 ≤ n) && decide (n ≤ 16))) ∧ w' = w := by
  go_enter Try.func51, Try.ntmps51
  go_wp2
  all_goals
    go_ret
    exact ⟨ret_bool (by rw [Bool.eq_iff_iff]; simp; try omega), rfl⟩
theorem join26 (v : Value) (ts : List ByteArray) (w : World) (hv : strsV w v ts) (hn : ts.length ≤ 1048576) :
    Calls Try.prog 26 #[v] w fun e w' => outK w (jkS ts) (jkC ts) e w' := by
  have K1 := hide (long50 v ts w hv (by omega))
  have K2 := hide (fun W => keys51 (ts.length : Int) W)
  have K3 := hide (has53 v ts w hv (by omega))
  have K4 := hide (fun h1 h2 => joined54 v ts w hv h1 h2)
  obtain ⟨A, cap, rfl, _⟩ := hv
  have n0 : (0 : Int) ≤ (ts.length : Int) := by omega
  have n1 : (ts.length : Int) ≤ 1048576 := by omega
  unfold outK
  go_enter Try.func26, Try.ntmps26
  go_wp2_with fail
  refine (unhide K1).mono ?_
  rintro e w' ⟨rfl, hw'⟩
  have hw2 := hw'.symm
  subst hw2
  clear K1
  by_cases h1 : 4096 < ts.length
  · have HC : Hid (jkC ts = 2) := hide (by unfold jkC; rw [if_pos h1])
    have HS : Hid (jkS ts = noS) := hide (by unfold jkS; rw [unhide HC]; rfl)
    rw [decide_eq_true h1]
    clear K2 K3 K4 h1 hn
    go_wp2
    go_ret2
    exact ⟨by rw [unhide HC, unhide HS]; rfl, Below.refl _ _⟩
  rw [decide_eq_false h1]
  go_wp2_with fail
  refine (unhide K2 _).mono ?_
  rintro e w' ⟨rfl, hw'⟩
  have hw2 := hw'.symm
  subst hw2
  clear K2
  by_cases h2 : ts.length < 1 ∨ 16 < ts.length
  · have HC : Hid (jkC ts = 4) := hide (by unfold jkC; rw [if_neg h1, if_pos h2])
    have HS : Hid (jkS ts = noS) := hide (by unfold jkS; rw [unhide HC]; rfl)
    have hb : (decide (1 ≤ (ts.length : Int)) && decide ((ts.length : Int) ≤ 16)) = false := by
      rcases h2 with h | h
      · rw [decide_eq_false (by omega), Bool.false_and]
      · rw [decide_eq_false (show ¬ (ts.length : Int) ≤ 16 by omega), Bool.and_false]
    rw [hb]
    clear K3 K4 h1 h2 hn hb
    go_wp2
    go_ret2
    exact ⟨by rw [unhide HC, unhide HS]; rfl, Below.refl _ _⟩
  have hb : (decide (1 ≤ (ts.length : Int)) && decide ((ts.length : Int) ≤ 16)) = true := by
    rw [decide_eq_true (by omega), decide_eq_true (by omega)]; rfl
  rw [hb]
  go_wp2_with fail
  refine (unhide K3).mono ?_
  rintro e w' ⟨rfl, hw'⟩
  have hw2 := hw'.symm
  subst hw2
  clear K3 hb
  have HC : Hid (jkC ts = if ts.all isK = true then 0 else 1) := hide (by unfold jkC; rw [if_neg h1, if_neg h2])
  by_cases h3 : ts.all isK = true
  · have HC2 : Hid (jkC ts = 0) := hide (by rw [unhide HC, if_pos h3])
    have HS : Hid (jkS ts = strOfNums (jkL ts)) := hide (by unfold jkS; rw [unhide HC2]; rfl)
    have K5 := hide (unhide K4 (by omega) (fun i hi => of_decide_eq_true (all_at h3 i hi)))
    rw [h3]
    clear K4 h1 h2 h3 hn HC
    go_wp2_with fail
    refine (unhide K5).mono ?_
    rintro e w' ⟨rfl, hb⟩
    have HB := hide hb
    clear K5 hb
    go_wp2
    go_ret2
    exact ⟨by rw [unhide HC2, unhide HS]; rfl, unhide HB⟩
  · rw [Bool.not_eq_true] at h3
    have HC2 : Hid (jkC ts = 1) := hide (by rw [unhide HC, h3]; rfl)
    have HS : Hid (jkS ts = noS) := hide (by unfold jkS; rw [unhide HC2]; rfl)
    rw [h3]
    clear K4 h1 h2 h3 hn HC
    go_wp2
    go_ret2
    exact ⟨by rw [unhide HC2, unhide HS]; rfl, Below.refl _ _⟩
/-- the world behind '[]byte(t)' -/
def cvW (w : World) (t : ByteArray) : World := w.drew.alloc (.cells (bytesRow t (grownCap w t.size 0 5)) 5 ((bytesRow t (grownCap w t.size 0 5)).size, (bytesRow t (grownCap w t.size 0 5)).size + 1))
theorem run_cv (w : World) (t : ByteArray) : (convert 9 22 (.string t)).run Try.prog w = .ok (.slice (some ⟨w.heap.size, 0, none⟩) t.size (grownCap w t.size 0 5)) (cvW w t) :=
  run_bytes_of_string w 9 22 5 t Try.underlying9 Try.underlying22 Try.underlying5
theorem bl_cv {w X : World} {t : ByteArray} (h : Below w.heap.size w X) : Below w.heap.size w (cvW X t) := (bl_dr h).alloc h.size _
/-- cells of a block that read as these bytes and may be stored to -/
structure Cw (g : Nat) (L : List Int) (W : World) : Prop where
  lt : g < W.heap.size
  cell : ∀ i, i < L.length → W.cell? ⟨g, i, none⟩ = some (.int .u8 (L.getD i 0))
  free : ∀ i, i < L.length → W.frozen? ⟨g, i, none⟩ = false
theorem Cw.set {g : Nat} {L : List Int} {W : World} (h : Cw g L W) (i : Nat) (hi : i < L.length) (v : Int) : Cw g (L.set i v) (W.setCell ⟨g, i, none⟩ (.int .u8 v)).drew := by
  refine ⟨by simpa [World.setCell, World.drew] using h.lt, fun k hk => ?_, fun k hk => ?_⟩
  · rw [List.length_set] at hk
    show (W.setCell ⟨g, i, none⟩ (.int .u8 v)).cell? ⟨g, k, none⟩ = _
    by_cases e : i = k
    · subst e
      rw [World.cell?_setCell_same (w := W) (a := ⟨g, i, none⟩) (v := .int .u8 v) (h.cell i hi), List.getD_eq_getElem?_getD, List.getElem?_set_self hi]; rfl
    · rw [World.cell?_setCell_other (w := W) (a := ⟨g, i, none⟩) (b := ⟨g, k, none⟩) (v := .int .u8 v) (by intro q; injection q with _ q2; exact e q2), h.cell k hk, List.getD_eq_getElem?_getD, List.getD_eq_getElem?_getD, List.getElem?_set_ne e]
  · rw [List.length_set] at hk
    show (W.setCell ⟨g, i, none⟩ (.int .u8 v)).frozen? ⟨g, k, none⟩ = _
    rw [World.frozen?_setCell]; exact h.free k hk
theorem cw_cv (w : World) (B : List Int) (hB : isB B) : Cw w.heap.size B (cvW w (strOfNums B)) := by
  have hh : (cvW w (strOfNums B)).heap[w.heap.size]? = some (.cells (bytesRow (strOfNums B) (grownCap w (strOfNums B).size 0 5)) 5 ((bytesRow (strOfNums B) (grownCap w (strOfNums B).size 0 5)).size, (bytesRow (strOfNums B) (grownCap w (strOfNums B).size 0 5)).size + 1)) := heap_at w.drew _ _ rfl
  refine ⟨by simp [cvW], fun i hi => ?_, fun i hi => ?_⟩
  · have hi' : i < (strOfNums B).data.size := by show i < (strOfNums B).size; rw [strOfNums_size]; exact hi
    rw [Go.cell_of_row _ _ _ _ _ _ hh, bytesRow_at _ _ i hi', ← bt_str B hB i]
    unfold bt
    rw [List.getD_eq_getElem?_getD, List.getElem?_eq_getElem (by simpa using hi')]
    rfl
  · have hi' : i < (strOfNums B).data.size := by show i < (strOfNums B).size; rw [strOfNums_size]; exact hi
    have hsz : i < (bytesRow (strOfNums B) (grownCap w (strOfNums B).size 0 5)).size := (Array.getElem?_eq_some_iff.1 (bytesRow_at _ _ i hi')).1
    unfold World.frozen?
    rw [show (⟨w.heap.size, i, none⟩ : Addr).block = w.heap.size from rfl, hh]
    simp
    omega
theorem xor49 (B : List Int) (hB : isB B) (hl : B.length = 32) (t : ByteArray) (ht : t.size = 32) (w : World) :
    Calls Try.prog 49 #[.string (strOfNums B), .string t] w fun e w' => e = .returned (.string (strOfNums (xL B t))) ∧ Below w.heap.size w w' := by
  have cv := run_cv w (strOfNums B)
  rw [strOfNums_size, hl] at cv
  have C0 := hide (cw_cv w B hB)
  have B0 : Hid (Below w.heap.size w (cvW w (strOfNums B))) := hide (bl_cv (Below.refl _ _))
  generalize cvW w (strOfNums B) = w1 at *
  generalize grownCap w 32 0 5 = cap at *
  have HL := hide hl
  have HT := hide ht
  have HBB := hide hB
  clear hl ht hB
  go_enter Try.func49, Try.ntmps49
  go_wp2
  clear cv
  go_loopw [6] (fun i wr => ∃ k : Nat, k ≤ 32 ∧ i = .int .i64 k ∧ Cw w.heap.size (mixL (xL B t) B k) wr ∧ Below w.heap.size w wr) (fun i _ => 32 - (intOf i).toNat)
  case atStart => exact ⟨0, by omega, rfl, by rw [mixL_zero]; exact unhide C0, unhide B0⟩
  case round =>
    obtain ⟨k, hk, rfl, hcw, hbl⟩ := hrel
    by_cases hlt : k < 32
    · have q3 : (k : Int) < 32 := by omega
      have q2 : (0 : Int) ≤ (k : Int) := by omega
      have ix := fun W => index_bt t k (by have := unhide HT; omega) W
      have hml : (mixL (xL B t) B k).length = 32 := by rw [mixL_len _ _ _ (xL_len _ _), unhide HL]
      have p1 := hcw.cell k (by omega)
      rw [mixL_at _ _ _ (xL_len _ _) (by rw [unhide HL]; exact hlt)] at p1
      have p2 := hcw.free k (by omega)
      have p3 := hcw.set k (by omega) (x8 (B.getD k 0) (bt t k))
      rw [← xL_at B t k (by rw [unhide HL]; exact hlt), mixL_succ _ _ _ (xL_len _ _) (by rw [unhide HL]; exact hlt), xL_at B t k (by rw [unhide HL]; exact hlt)] at p3
      have F4 : Hid (Cw w.heap.size (mixL (xL B t) B (k + 1)) (wr.setCell ⟨w.heap.size, k, none⟩ (.int .u8 (x8 (B.getD k 0) (bt t k)))).drew ∧ Below w.heap.size w (wr.setCell ⟨w.heap.size, k, none⟩ (.int .u8 (x8 (B.getD k 0) (bt t k)))).drew) := hide ⟨p3, bl_dr (bl_set hbl (Nat.le_refl _))⟩
      have HKK := hide hlt
      clear hlt hk hcw hbl p3 hml C0 B0
      generalize B.getD k 0 = x at *
      generalize bt t k = y at *
      go_wp2
      go_region
      rw [x8_eq]
      clear p1 p2 ix
      generalize (wr.setCell ⟨w.heap.size, k, none⟩ (.int .u8 (x8 x y))).drew = Z at *
      go_wp2
      go_roundw
      case rel => exact ⟨k + 1, unhide HKK, by go_num, (unhide F4).1, (unhide F4).2⟩
      case measure => have := unhide HKK; simp [intOf]; omega
    · obtain rfl : k = 32 := by omega
      have hm := mixL_all (xL B t) B (xL_len _ _)
      rw [unhide HL] at hm
      rw [hm] at hcw
      have RA : rowAt wr w.heap.size 0 (xL B t) := ⟨hcw.lt, fun i hi => by rw [Nat.zero_add]; exact hcw.cell i hi⟩
      have cv := RA.conv 32 cap (by rw [xL_len, unhide HL])
      have HB := hide hbl
      clear hcw hbl RA hlt hm C0 B0 hk
      go_wp2
      go_ret
      exact ⟨rfl, unhide HB⟩
theorem in48 (n lo hi : Int) (w : World) : Calls Try.prog 48 #[.int .i64 n, .int .i64 lo, .int .i64 hi] w fun e w' => e = .returned (.bool (decide (lo ≤ n) && decide (n ≤ hi))) ∧ w' = w := by
  go_enter Try.func48, Try.ntmps48
  go_wp2
  all_goals
    go_ret
    exact ⟨ret_bool (by rw [Bool.eq_iff_iff]; simp; try omega), rfl⟩
theorem join25 (v : Value) (ts : List ByteArray) (w : World) (hv : strsV w v ts) (hn : ts.length ≤ 1048576) :
    Calls Try.prog 25 #[v] w fun e w' => outK w (jkS ts) (jkC ts) e w' := by
  obtain ⟨A, cap, rfl, hc⟩ := hv
  have HC := hide hc
  clear hc
  have n0 : (0 : Int) ≤ (ts.length : Int) := by omega
  have n1 : (ts.length : Int) ≤ 1048576 := by omega
  unfold outK
  by_cases h1 : 4096 < ts.length
  · have HE : Hid (jkC ts = 2) := hide (by unfold jkC; rw [if_pos h1])
    have HS : Hid (jkS ts = noS) := hide (by unfold jkS; rw [unhide HE]; rfl)
    have q : (4096 : Int) < (ts.length : Int) := by omega
    rw [unhide HE, unhide HS]
    clear h1 hn HC
    go_enter Try.func25, Try.ntmps25
    go_wp2
    go_ret2
    exact ⟨rfl, Below.refl _ _⟩
  have q : (ts.length : Int) ≤ 4096 := by omega
  clear n1
  go_enter Try.func25, Try.ntmps25
  go_wp2_with fail
  refine (in48 _ _ _ _).mono ?_
  rintro e w' ⟨rfl, hw'⟩
  have hw2 := hw'.symm
  subst hw2
  by_cases h2 : ts.length < 1 ∨ 16 < ts.length
  · have HE : Hid (jkC ts = 4) := hide (by unfold jkC; rw [if_neg h1, if_pos h2])
    have HS : Hid (jkS ts = noS) := hide (by unfold jkS; rw [unhide HE]; rfl)
    have hb : (decide (1 ≤ (ts.length : Int)) && decide ((ts.length : Int) ≤ 16)) = false := by
      rcases h2 with h | h
      · rw [decide_eq_false (by omega), Bool.false_and]
      · rw [decide_eq_false (show ¬ (ts.length : Int) ≤ 16 by omega), Bool.and_false]
    rw [hb]
    clear h1 h2 hn hb HC
    go_wp2
    go_ret2
    exact ⟨by rw [unhide HE, unhide HS]; rfl, Below.refl _ _⟩
  have hb : (decide (1 ≤ (ts.length : Int)) && decide ((ts.length : Int) ≤ 16)) = true := by
    rw [decide_eq_true (by omega), decide_eq_true (by omega)]; rfl
  rw [hb]
  have HE : Hid (jkC ts = if ts.all isK = true then 0 else 1) := hide (by unfold jkC; rw [if_neg h1, if_neg h2])
  have n2 : (ts.length : Int) ≤ 16 := by omega
  have mk : ∀ W : World, (Instr.makeSlice 22 (.int .i64 32) (.int .i64 32)).run Try.prog W = .ok (.slice (some ⟨W.heap.size, 0, none⟩) 32 32) (W.alloc (rowObj 5 .u8 (List.replicate 32 0) [])) := fun W => make_bytes 32 (by omega) W
  have mk1 := mk w
  clear mk
  have cvm : (convert 22 9 (.slice (some ⟨w.heap.size, 0, none⟩) 32 32)).run Try.prog (w.alloc (rowObj 5 .u8 (List.replicate 32 0) [])) = .ok (.string (strOfNums (List.replicate 32 0))) (w.alloc (rowObj 5 .u8 (List.replicate 32 0) [])) :=
    rowAt.conv (g := w.heap.size) (off := 0) ⟨by simp, fun i hi => by rw [Nat.zero_add]; exact cell_rowK (heap_at _ _ _ rfl) i hi⟩ 32 32 (by simp)
  have B0 : Hid (Below w.heap.size w (w.alloc (rowObj 5 .u8 (List.replicate 32 0) []))) := hide (bl_al (Below.refl _ _))
  clear h1 h2 hn hb q
  obtain ⟨zz, hz⟩ : ∃ zz, zz = List.replicate 32 (0 : Int) := ⟨_, rfl⟩
  rw [← hz] at mk1 cvm B0
  have HZ := hide hz
  clear hz
  generalize w.alloc (rowObj 5 .u8 zz []) = w1 at *
  go_wp2
  clear mk1 cvm
  go_loopw [4, 5] (fun o i wr => ∃ j : Nat, j ≤ ts.length ∧ i = .int .i64 j ∧ o = .string (strOfNums (jkL (ts.take j))) ∧ (∀ i, i < j → isK (ts.getD i noS) = true) ∧ Below w.heap.size w wr) (fun _ i _ => ts.length - (intOf i).toNat)
  case atStart => exact ⟨0, by omega, rfl, by rw [unhide HZ]; rfl, fun k hk => absurd hk (Nat.not_lt_zero k), unhide B0⟩
  case round =>
    obtain ⟨j, hj, rfl, rfl, hg, hbl⟩ := hrel
    by_cases hlt : j < ts.length
    · obtain ⟨b, off, hA, hbb, hcell⟩ := unhide HC (by omega)
      subst hA
      have q1 : (j : Int) < (ts.length : Int) := by omega
      have q0 : (0 : Int) ≤ (j : Int) := by omega
      have p0 : wr.cell? ⟨b, off + j, none⟩ = some (.string (ts.getD j noS)) := (cell_below hbl hbb).trans (hcell j hlt)
      have HJ := hide hlt
      have HG := hide hg
      have HB := hide hbl
      have HT := hide (jkL_step ts j hlt)
      have HX := hide (fun (h : isK (ts.getD j noS) = false) => all_no j hlt h)
      have HY := hide (fun (h : isK (ts.getD j noS) = true) k (hk : k < j + 1) => (show isK (ts.getD k noS) = true by rcases Nat.lt_succ_iff_lt_or_eq.1 hk with h' | h'; exact hg k h'; rw [h']; exact h))
      have HXO := hide (fun t ht W => xor49 (jkL (ts.take j)) (jkL_isB _) (jkL_len _) t ht W)
      clear hcell hlt hj hbb hg hbl B0
      generalize ts.getD j noS = t at *
      generalize jkL (ts.take j) = a at *
      by_cases h8 : t.size = 32
      · have h9 : (t.size : Int) = 32 := by omega
        have K := hide (unhide HXO t h8)
        have HY2 := hide (unhide HY (decide_eq_true h8))
        clear h8 HXO HX HY HG
        go_wp2_with fail
        refine (unhide K _).mono ?_
        rintro e w' ⟨rfl, hb⟩
        have HB2 := hide (bl_st hb (unhide HB))
        clear K hb HB p0
        go_wp2
        go_roundw
        case rel => exact ⟨j + 1, unhide HJ, by go_num, by rw [unhide HT], unhide HY2, unhide HB2⟩
        case measure => have := unhide HJ; simp [intOf]; omega
      · have HE2 : Hid (jkC ts = 1) := hide (by rw [unhide HE, unhide HX (decide_eq_false h8)]; rfl)
        have HS : Hid (jkS ts = noS) := hide (by unfold jkS; rw [unhide HE2]; rfl)
        have h10 : ¬ (t.size : Int) = 32 := by omega
        clear h8 HXO HX HY HG
        go_wp2
        try (rotate_left; (exfalso; simp_all); done)
        go_ret2
        exact ⟨by rw [unhide HE2, unhide HS]; rfl, unhide HB⟩
    · obtain rfl : j = ts.length := by omega
      have HE2 : Hid (jkC ts = 0) := hide (by rw [unhide HE, all_yes hg]; rfl)
      have HS : Hid (jkS ts = strOfNums (jkL ts)) := hide (by unfold jkS; rw [unhide HE2]; rfl)
      rw [List.take_length]
      have HB := hide hbl
      clear hg hlt hbl
      go_wp2
      go_ret2
      exact ⟨by rw [unhide HE2, unhide HS]; rfl, unhide HB⟩
theorem law_join (w : World) (v : Value) (ts : List ByteArray) (hv : strsV w v ts) (hl : ts.length ≤ maxLen) (hs : ∀ t ∈ ts, t.size ≤ maxLen) :
    Calls Try.prog 7 #[v] w fun e w' => e = .returned (.bool true) ∧ Below w.heap.size w w' := by
  have HV := hide hv
  have KS := hide (sz27 v ts w hv hl hs)
  have HTO : Hid (ts.length ≤ 1048576 → ∀ u W, strsV W u ts → Calls Try.prog 16 #[u] W fun e w' => ∃ r, e = .returned r ∧ ownS W.heap.size w'.heap.size w' r ts ∧ Below W.heap.size W w') := hide fun hn u W hu => to30 u ts W hu (by omega)
  have HSP : Hid (ts.length ≤ 1048576 → ∀ u W, strsV W u ts → Calls Try.prog 25 #[u] W fun e w' => outK W (jkS ts) (jkC ts) e w') := hide fun hn u W hu => join25 u ts W hu hn
  have HIM : Hid (ts.length ≤ 1048576 → ∀ u W, strsV W u ts → Calls Try.prog 26 #[u] W fun e w' => outK W (jkS ts) (jkC ts) e w') := hide fun hn u W hu => join26 u ts W hu hn
  have HEX : Hid (ts.length ≤ 1048576 → ∀ u u' W, strsV W u ts → strsV W u' ts → Calls Try.prog 18 #[u, u'] W fun e w' => e = .returned (.bool true) ∧ ∃ k, w' = W.drewN k) := hide fun hn u u' W hu hu' => eq33 u u' ts W hu hu' (by omega)
  obtain ⟨A, cap, rfl, hc⟩ := hv
  clear hc hl hs
  generalize jkS ts = S at *
  generalize jkC ts = C at *
  go_enter Try.func7, Try.ntmps7
  go_wp2_with fail
  refine (unhide KS).mono ?_
  rintro e w1 ⟨z, rfl, hz, hw1⟩
  have hw1' := hw1.symm
  subst hw1'
  clear KS
  by_cases h0 : z < 0
  · clear hz
    go_wp2
    go_ret
    exact ⟨rfl, Below.refl _ _⟩
  have HN := hide (hz.resolve_left h0)
  have h1 : 0 ≤ z := by omega
  clear hz h0
  go_wp2_with fail
  refine (unhide HTO (unhide HN) _ w (unhide HV)).mono ?_
  rintro e w2 ⟨u1, rfl, o2, b2⟩
  have B2 := hide b2
  have U2 := hide o2.strs
  clear o2 b2
  go_wp2_with fail
  refine (unhide HSP (unhide HN) _ w2 (unhide U2)).mono ?_
  rintro e w3 ⟨rfl, b3⟩
  have B3 := hide (bl_st b3 (unhide B2))
  clear U2 b3 B2
  go_wp2_with fail
  refine (unhide HTO (unhide HN) _ w3 ((unhide HV).below (unhide B3))).mono ?_
  rintro e w4 ⟨u, rfl, o4, b4⟩
  have B4 := hide (bl_st b4 (unhide B3))
  have X4 := hide o4.strs
  clear o4 b4 B3
  go_wp2_with fail
  refine (unhide HIM (unhide HN) _ w4 (unhide X4)).mono ?_
  rintro e w5 ⟨rfl, b5⟩
  have B5 := hide (bl_st b5 (unhide B4))
  have X5 := hide ((unhide X4).below b5)
  clear b5 B4 X4
  go_wp2_with fail
  refine (unhide HTO (unhide HN) _ w5 ((unhide HV).below (unhide B5))).mono ?_
  rintro e w7 ⟨u7, rfl, o7, b7⟩
  have B7 := hide (bl_st b7 (unhide B5))
  have X7 := hide ((unhide X5).below b7)
  have U7 := hide o7.strs
  clear o7 b7 B5 X5
  go_wp2_with fail
  refine (unhide HEX (unhide HN) _ _ w7 (unhide X7) (unhide U7)).mono ?_
  rintro e w8 ⟨rfl, k8, hw8⟩
  have B8 := hide (show Below w.heap.size w w8 by rw [hw8]; exact below_drewN (unhide B7) k8)
  clear hw8 B7 X7 U7
  go_wp2
  go_ret
  exact ⟨rfl, unhide B8⟩
end Go.Proofs.Ytggiijlgdpkkfaa
