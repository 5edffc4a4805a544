/- FnExactTalkRun: the laws' helpers over numbers, acts and peers; answers that own their memory, or none; the argument opened; the law. -/
import Derived.Test.YthonnlifgdnacaaLtm
import Derived.Test.YthonnlifgdnacaaLtk
import Derived.Test.YthonnlifgdnacaaAcs
import Derived.Test.YthonnlifgdnacaaOpenP
import Derived.Deep.Strs
import Derived.ProofKit
import Derived.OpenShut
import Derived.ShutString
namespace Go.Proofs.Ythonnlifgdnacaa
open Go.RowKit
set_option maxHeartbeats 4000000
set_option maxRecDepth 20000
set_option linter.unusedVariables false
theorem eq37 (a b : Value) (ts : List Int) (w : World) (ha : intsV w a ts) (hb : intsV w b ts) (hn : ts.length ≤ 2097152) :
    Calls Try.prog 37 #[a, b] w fun e w' => e = .returned (.bool true) ∧ Below w.heap.size w w' := by
  obtain ⟨A, ca, rfl, hc⟩ := ha
  obtain ⟨A2, cb, rfl, hd⟩ := hb
  have HC := hide hc
  have HD := hide hd
  obtain ⟨n, hnx⟩ : ∃ n, n = ts.length := ⟨_, rfl⟩
  rw [← hnx] at hn HC HD ⊢
  clear hc hd hnx
  go_enter Try.func37, Try.ntmps37
  go_wp2
  go_loopw [5] (fun i wr => ∃ j k : Nat, j ≤ n ∧ i = .int .i64 j ∧ wr = w.drewN k) (fun i _ => n - (intOf i).toNat)
  case atStart => exact ⟨0, 0, by omega, rfl, rfl⟩
  case round =>
    obtain ⟨j, k, hj, rfl, rfl⟩ := hrel
    by_cases hlt : j < n
    · obtain ⟨b1, o1, hA, _, hc1⟩ := unhide HC (by omega)
      obtain ⟨b2, o2, hA2, _, hc2⟩ := unhide HD (by omega)
      subst hA hA2
      have q1 : (j : Int) < (n : Int) := by omega
      have q0 : (0 : Int) ≤ (j : Int) := by omega
      have p1 : ∀ k, (w.drewN k).cell? ⟨b1, o1 + j, none⟩ = some (.int .i64 (ts.getD j 0)) := fun k => hc1 j hlt
      have p2 : ∀ k, (w.drewN k).cell? ⟨b2, o2 + j, none⟩ = some (.int .i64 (ts.getD j 0)) := fun k => hc2 j hlt
      have HJ := hide hlt
      clear hc1 hc2 hlt hj
      generalize ts.getD j 0 = xj at *
      go_wp2
      go_quiet (fail)
      rw [show (w.drewN k).drewN nq = w.drewN (k + nq) by simp [World.drewN, Nat.add_assoc]]
      go_wp2
      go_roundw
      case rel => exact ⟨j + 1, _, unhide HJ, by go_num, rfl⟩
      case measure => have := unhide HJ; simp [intOf]; omega
    · obtain rfl : j = n := by omega
      clear hlt
      go_wp2
      go_ret
      exact ⟨rfl, below_drewN (Below.refl _ _) k⟩
/-- numbers from K on -/
def marksI (K n : Nat) : List Int := (List.range n).map fun i : Nat => (K : Int) + (i : Int)
theorem marksI_len (K n : Nat) : (marksI K n).length = n := by simp [marksI]
theorem marksI_at (K n i : Nat) (h : i < n) : (marksI K n).getD i 0 = (K : Int) + (i : Int) := by
  rw [List.getD_eq_getElem?_getD, marksI, List.getElem?_map, List.getElem?_range h]; rfl
/-- numbers in a block of their own, or none -/
def iO (w : World) (v : Value) (g : Nat) (xs : List Int) : Prop :=
  (v = .slice none 0 0 ∧ xs = []) ∨ (v = .slice (some ⟨g, 0, none⟩) xs.length xs.length ∧ w.heap[g]? = some (intO xs))
theorem iO.ints {w : World} {v : Value} {g : Nat} {xs : List Int} (h : iO w v g xs) : intsV w v xs := by
  obtain ⟨rfl, rfl⟩ | ⟨rfl, h⟩ := h
  · exact ⟨none, 0, rfl, fun h => absurd h (Nat.lt_irrefl _)⟩
  · exact intO_ints h
theorem iO.below {w w' : World} {v : Value} {g : Nat} {xs : List Int} (h : iO w v g xs) (hb : Below w.heap.size w w') : iO w' v g xs := by
  obtain h | ⟨e, h⟩ := h
  · exact .inl h
  · exact .inr ⟨e, (hb.block _ (Array.getElem?_eq_some_iff.1 h).1).trans h⟩
theorem row_int2 {W : World} {b j : Nat} {xs : List Int} (h : W.heap[b]? = some (intO xs)) : W.frozen? ⟨b, j, none⟩ = false := row_free (cs := (ivs xs).toArray) (by exact h)
theorem mark41 (g : Nat) (v : Value) (xs : List Int) (K : Nat) (w : World) (hv : iO w v g xs) (hn : xs.length ≤ 2097152) (hK : K ≤ 2097152) :
    Calls Try.prog 41 #[v, .int .i64 (K : Int)] w fun e w' => e = .returned (.int .i64 ((K : Int) + (xs.length : Int))) ∧ iO w' v g (marksI K xs.length) ∧ Lone g w w' := by
  obtain ⟨rfl, rfl⟩ | ⟨rfl, hc⟩ := hv
  · go_enter Try.func41, Try.ntmps41
    go_wp2
    refine wp_loop_rounds 1 ?_
    rw [rounds_succ]; go_wp2
    go_ret
    exact ⟨by simp, .inl ⟨rfl, rfl⟩, Lone.refl _ _⟩
  · obtain ⟨n, hnx⟩ : ∃ n, n = xs.length := ⟨_, rfl⟩
    rw [← hnx] at hn ⊢
    have HN := hide hnx
    have HC : Hid (w.heap[g]? = some (intO (mixG (marksI K n) xs 0))) := hide (by rw [mixG_zero]; exact hc)
    have k0 : (0 : Int) ≤ (K : Int) := by omega
    have k1 : (K : Int) ≤ 2097152 := by omega
    clear hc hnx
    go_enter Try.func41, Try.ntmps41
    go_wp2
    go_loopw [1, 5] (fun k i wr => ∃ j : Nat, j ≤ n ∧ i = .int .i64 j ∧ k = .int .i64 ((K : Int) + (j : Int)) ∧ wr.heap[g]? = some (intO (mixG (marksI K n) xs j)) ∧ Lone g w wr) (fun _ i _ => n - (intOf i).toNat)
    case atStart => exact ⟨0, by omega, rfl, by simp, unhide HC, Lone.refl _ _⟩
    case round =>
      obtain ⟨j, hj, rfl, rfl, ho, hlo⟩ := hrel
      by_cases hlt : j < n
      · have q1 : (j : Int) < (n : Int) := by omega
        have q0 : (0 : Int) ≤ (j : Int) := by omega
        have q2 : (n : Int) ≤ 2097152 := by omega
        have hl : (mixG (marksI K n) xs j).length = n := by rw [mixG_len _ _ _ (by rw [marksI_len]; exact unhide HN)]; exact (unhide HN).symm
        obtain ⟨x0, p1⟩ := row_int (j := j) ho (by omega)
        have p2 := row_int2 (j := j) ho
        have p3 := row_intset (j := j) ho ((K : Int) + (j : Int))
        rw [← marksI_at K n j hlt, mixG_succ _ _ _ _ (by rw [marksI_len]; exact unhide HN) (by rw [← unhide HN]; exact hlt), marksI_at K n j hlt] at p3
        have L3 := hide (hlo.trans (lone_setCell g j wr (.int .i64 ((K : Int) + (j : Int)))))
        obtain ⟨z, hz⟩ : ∃ z : Int, (K : Int) + (j : Int) = z := ⟨_, rfl⟩
        rw [hz] at p3 L3 ⊢
        have z0 : 0 ≤ z := by omega
        have z1 : z ≤ 4194304 := by omega
        have HZ := hide hz
        have HJ := hide hlt
        have P3 := hide p3
        clear hlt hj ho hlo HC hz p3 hl
        go_wp2
        go_roundw
        case rel => exact ⟨j + 1, unhide HJ, by go_num, by rw [← unhide HZ]; go_num, unhide P3, unhide L3⟩
        case measure => have := unhide HJ; simp [intOf]; omega
      · obtain rfl : j = n := by omega
        have hm := mixG_all (marksI K j) xs (by rw [marksI_len]; exact unhide HN)
        rw [← unhide HN] at hm
        rw [hm] at ho
        have HO := hide ho
        have HL := hide hlo
        clear hm ho hlo hlt
        go_wp2
        go_ret
        exact ⟨rfl, .inr ⟨by rw [marksI_len], unhide HO⟩, unhide HL⟩
theorem held43 (v : Value) (K n : Nat) (w : World) (hv : intsV w v (marksI K n)) (hn : n ≤ 2097152) (hK : K ≤ 2097152) :
    Calls Try.prog 43 #[v, .int .i64 (K : Int)] w fun e w' => e = .returned (.int .i64 ((K : Int) + (n : Int))) ∧ w' = w := by
  obtain ⟨A, cap, rfl, hc⟩ := hv
  rw [marksI_len] at hc ⊢
  have HC := hide hc
  have k0 : (0 : Int) ≤ (K : Int) := by omega
  have k1 : (K : Int) ≤ 2097152 := by omega
  clear hc
  go_enter Try.func43, Try.ntmps43
  go_wp2
  go_loopw [1, 5] (fun k i wr => ∃ j : Nat, j ≤ n ∧ i = .int .i64 j ∧ k = .int .i64 ((K : Int) + (j : Int)) ∧ wr = w) (fun _ i _ => n - (intOf i).toNat)
  case atStart => exact ⟨0, by omega, rfl, by simp, rfl⟩
  case round =>
    obtain ⟨j, hj, rfl, rfl, rfl⟩ := hrel
    by_cases hlt : j < n
    · have q1 : (j : Int) < (n : Int) := by omega
      have q0 : (0 : Int) ≤ (j : Int) := by omega
      have q2 : (n : Int) ≤ 2097152 := by omega
      obtain ⟨b, off, hA, _, hcc⟩ := unhide HC (by omega)
      subst hA
      have p1 := hcc j hlt
      rw [marksI_at K n j hlt] at p1
      obtain ⟨z, hz⟩ : ∃ z : Int, (K : Int) + (j : Int) = z := ⟨_, rfl⟩
      rw [hz] at p1 ⊢
      have z0 : 0 ≤ z := by omega
      have z1 : z ≤ 4194304 := by omega
      have HZ := hide hz
      have HJ := hide hlt
      clear hlt hj hz hcc
      go_wp2
      go_roundw
      case rel => exact ⟨j + 1, unhide HJ, by go_num, by rw [← unhide HZ]; go_num, trivial⟩
      case measure => have := unhide HJ; simp [intOf]; omega
    · obtain rfl : j = n := by omega
      clear hlt
      go_wp2
      go_ret
      exact ⟨rfl, rfl⟩
theorem tc_new (w : World) (k wh : Int) (t : ByteArray) (la lb : Bool) (ty : Nat) : AC w.heap.size 0 ⟨k, wh, t, la, lb⟩ (w.alloc (.cells #[.int .i64 k, .int .i64 wh, .string t, .bool la, .bool lb] ty)) := by
  have h := heap_alloc_new w (.cells #[.int .i64 k, .int .i64 wh, .string t, .bool la, .bool lb] ty)
  exact ⟨by rw [row_cell h]; rfl, by rw [row_cell h]; rfl, by rw [row_cell h]; rfl, by rw [row_cell h]; rfl, by rw [row_cell h]; rfl⟩
theorem sz67 (a : Ta) (L : Int) (w : World) (hf : a.t.size ≤ maxLen) (hL : 0 ≤ L) (hL' : L ≤ 1048576) :
    Calls Try.prog 67 #[taV a, .int .i64 L] w fun e w' => ∃ z : Int, e = .returned (.int .i64 z) ∧ (z < 0 ∨ 0 ≤ z ∧ z + (a.t.size : Int) ≤ L) ∧ Below w.heap.size w w' := by
  obtain ⟨k, wh, b, la, lb⟩ := a
  dsimp only at *
  show Calls Try.prog 67 #[taA k wh b la lb, .int .i64 L] w _
  have B1 := hide (show Below w.heap.size w (w.alloc (.cells #[.int .i64 k, .int .i64 wh, .string b, .bool la, .bool lb] 91)) from bl_al (Below.refl _ _))
  obtain ⟨c0, c1, c2, c3, c4⟩ := tc_new w k wh b la lb 91
  unfold maxLen at hf
  have n0 : (0 : Int) ≤ (b.size : Int) := by omega
  have n1 : (b.size : Int) ≤ 9223372036854775807 := by omega
  clear hf
  by_cases hlt : L < (b.size : Int)
  · go_enter Try.func67, Try.ntmps67
    go_wp2
    go_ret
    exact ⟨_, rfl, .inl (by omega), unhide B1⟩
  · have hge : (b.size : Int) ≤ L := by omega
    clear hlt
    go_enter Try.func67, Try.ntmps67
    go_wp2
    go_ret
    exact ⟨_, rfl, .inr ⟨by omega, by omega⟩, unhide B1⟩
theorem to68 (a : Ta) (w : World) :
    Calls Try.prog 68 #[taV a] w fun e w' => e = .returned (taV a) ∧ Below w.heap.size w w' := by
  obtain ⟨k, wh, b, la, lb⟩ := a
  show Calls Try.prog 68 #[taA k wh b la lb] w fun e w' => e = .returned (taA k wh b la lb) ∧ Below w.heap.size w w'
  go_enter Try.func68, Try.ntmps68
  go_wp2
  refine bodyPost_ret (v := taA k wh b la lb) ?_ rfl ⟨rfl, bl_al (bl_al (bl_al (Below.refl _ _)))⟩
  refine results_cell_row rfl _ _ (w.heap.size + 1) 35 #[.int .i64 k, .int .i64 wh, .string b, .bool la, .bool lb] (0, 0) _ rfl ?_ Try.underlying35 rfl (by kernel_rfl)
  rw [Below.heap_alloc _ _ _ (by simp)]
  exact heap_at _ _ _ (by simp)
theorem eq69 (a : Ta) (w : World) : Calls Try.prog 69 #[taV a, taV a] w fun e w' => e = .returned (.bool true) ∧ Below w.heap.size w w' := by
  obtain ⟨k, wh, b, la, lb⟩ := a
  show Calls Try.prog 69 #[taA k wh b la lb, taA k wh b la lb] w _
  have B1 : Below w.heap.size w ((w.alloc (.cells #[.int .i64 k, .int .i64 wh, .string b, .bool la, .bool lb] 35)).alloc (.cells #[.int .i64 k, .int .i64 wh, .string b, .bool la, .bool lb] 35)) := bl_al (bl_al (Below.refl _ _))
  have C := (tc_new w k wh b la lb 35).below (bl_al (o := .cells #[.int .i64 k, .int .i64 wh, .string b, .bool la, .bool lb] 35) (Below.refl _ _)) (by simp)
  have D := tc_new (w.alloc (.cells #[.int .i64 k, .int .i64 wh, .string b, .bool la, .bool lb] 35)) k wh b la lb 35
  rw [show (w.alloc (.cells #[.int .i64 k, .int .i64 wh, .string b, .bool la, .bool lb] 35)).heap.size = w.heap.size + 1 by simp] at D
  obtain ⟨c0, c1, c2, c3, c4⟩ := C
  obtain ⟨d0, d1, d2, d3, d4⟩ := D
  have HB := hide B1
  clear B1
  go_enter Try.func69, Try.ntmps69
  go_wp2
  go_ret
  exact ⟨rfl, unhide HB⟩
end Go.Proofs.Ythonnlifgdnacaa
namespace Go.Proofs.Ythonnlifgdnacaa
open Go.RowKit
set_option maxHeartbeats 4000000
set_option maxRecDepth 20000
set_option linter.unusedVariables false
theorem sz34 (v : Value) (al : List Ta) (w : World) (hv : actsV w v al) (hl : al.length ≤ maxLen) (ht : ∀ a ∈ al, a.t.size ≤ maxLen) :
    Calls Try.prog 34 #[v, .int .i64 1048576] w fun e w' => ∃ z : Int, e = .returned (.int .i64 z) ∧ (z < 0 ∨ 0 ≤ z ∧ al.length ≤ 1048576 ∧ ∀ i, i < al.length → (al.getD i ta0).t.size ≤ 1048576) ∧ Below w.heap.size w w' := by
  obtain ⟨A, cap, rfl, hc⟩ := hv
  have HC := hide hc
  have HT := hide ht
  unfold maxLen at hl
  by_cases hbig : 1048576 < al.length
  · have q1 : (1048576 : Int) < (al.length : Int) := by omega
    have q2 : (al.length : Int) ≤ 9223372036854775807 := by omega
    clear hc ht hl hbig
    go_enter Try.func34, Try.ntmps34
    go_wp2
    go_ret
    exact ⟨_, rfl, .inl (by omega), Below.refl _ _⟩
  have HN : Hid (al.length ≤ 1048576) := hide (by omega)
  obtain ⟨n, hnx⟩ : ∃ n, n = al.length := ⟨_, rfl⟩
  have HNX := hide hnx
  rw [← hnx] at HC HN hbig ⊢
  have q1 : (n : Int) ≤ 1048576 := by omega
  have q2 : (0 : Int) ≤ (n : Int) := by omega
  clear hc ht hl hbig hnx
  go_enter Try.func34, Try.ntmps34
  go_wp2
  go_loopw [1, 5] (fun L iv wr => ∃ (i : Nat) (z : Int), i ≤ n ∧ iv = .int .i64 i ∧ L = .int .i64 z ∧ 0 ≤ z ∧ z ≤ 1048576 ∧ (∀ k, k < i → (al.getD k ta0).t.size ≤ 1048576) ∧ Below w.heap.size w wr) (fun _ iv _ => n - (intOf iv).toNat)
  case atStart => exact ⟨0, (1048576 : Int) - (n : Int), by omega, rfl, by go_num, by omega, by omega, fun k h => absurd h (Nat.not_lt_zero _), Below.refl _ _⟩
  case round =>
    obtain ⟨i, z, hi, rfl, rfl, z0, z1, hall, hb⟩ := hrel
    have HB := hide hb
    have HA := hide hall
    by_cases hlt : i < n
    · have q3 : (i : Int) < (n : Int) := by omega
      have q4 : (0 : Int) ≤ (i : Int) := by omega
      obtain ⟨b, off, hA, hbl, hcc⟩ := unhide HC (by omega)
      subst hA
      have aC := (hcc i hlt).below hb hbl
      have htx : (al.getD i ta0).t.size ≤ maxLen := unhide HT _ (by rw [List.getD_eq_getElem?_getD, List.getElem?_eq_getElem (by rw [← unhide HNX]; exact hlt)]; exact List.getElem_mem _)
      have K := hide (sz67 (al.getD i ta0) z wr htx z0 z1)
      have HS : Hid (∀ y : Int, 0 ≤ y ∧ y + ((al.getD i ta0).t.size : Int) ≤ z → ∀ k, k < i + 1 → (al.getD k ta0).t.size ≤ 1048576) := hide (fun y hy k hk => by
        rcases Nat.lt_or_ge k i with h | h
        · exact hall k h
        · obtain rfl : k = i := by omega
          omega)
      obtain ⟨c0, c1, c2, c3, c4⟩ := aC
      have HLT := hide hlt
      have HZ1 := hide z1
      clear hcc hbl hlt hi hall htx hb
      generalize al.getD i ta0 = a at *
      obtain ⟨ak, aw, tt, la, lb⟩ := a
      dsimp only at *
      go_wp2_with fail
      refine (unhide K).mono ?_
      rintro e w5 ⟨y, rfl, hy, b5⟩
      have HB5 := hide (bl_st b5 (unhide HB))
      clear b5 c0 c1 c2 c3 c4 K
      rcases hy with hy | ⟨hy, hy2⟩
      · go_wp2
        go_ret
        exact ⟨_, rfl, .inl (by omega), unhide HB5⟩
      · have HS2 := hide (unhide HS y ⟨hy, hy2⟩)
        have hy3 : y ≤ 1048576 := by have := unhide HZ1; omega
        have HY := hide hy3
        clear hy2 hy3
        go_wp2
        go_roundw
        case rel => exact ⟨i + 1, y, unhide HLT, by go_num, rfl, hy, unhide HY, unhide HS2, unhide HB5⟩
        case measure => have := unhide HLT; simp [intOf]; omega
    · obtain rfl : i = n := by omega
      clear hlt hall hb
      go_wp2
      go_ret
      exact ⟨_, rfl, .inr ⟨z0, unhide HN, unhide HA⟩, unhide HB⟩
theorem flatT_set : ∀ (l : List Ta) (i : Nat) (a : Ta), i < l.length → flatT (l.set i a) = ((((((flatT l).set (i * 5) (.int .i64 a.k)).set (i * 5 + 1) (.int .i64 a.w)).set (i * 5 + 2) (.string a.t)).set (i * 5 + 3) (.bool a.la)).set (i * 5 + 4) (.bool a.lb))
  | [], i, a, h => absurd h (Nat.not_lt_zero _)
  | x :: xs, 0, a, h => rfl
  | x :: xs, i + 1, a, h => by
    have ih := flatT_set xs i a (by simpa using h)
    rw [List.set_cons_succ]
    have e0 : (i + 1) * 5 = i * 5 + 5 := by omega
    rw [e0]
    show _ :: _ :: _ :: _ :: _ :: flatT (xs.set i a) = _
    rw [ih]
    rfl
/-- acts in a block of their own -/
def tO (al : List Ta) : Obj := .cells (flatT al).toArray 35 (0, 0)
theorem tO_acts {w : World} {g : Nat} {al : List Ta} {c : Nat} (h : w.heap[g]? = some (tO al)) : actsV w (.slice (some ⟨g, 0, none⟩) al.length c) al :=
  ⟨_, _, rfl, fun _ => ⟨g, 0, rfl, (Array.getElem?_eq_some_iff.1 h).1, fun i hi => by
    have hk : ∀ k, k < 5 → w.cell? ⟨g, 0 + i * 5 + k, none⟩ = ([.int .i64 (al.getD i ta0).k, .int .i64 (al.getD i ta0).w, .string (al.getD i ta0).t, .bool (al.getD i ta0).la, .bool (al.getD i ta0).lb] : List Value)[k]? := fun k hk => by
      rw [row_cell (cs := (flatT al).toArray) (by exact h), Nat.zero_add, List.getElem?_toArray]
      exact flatT_at al i k hi hk
    exact ⟨hk 0 (by omega), hk 1 (by omega), hk 2 (by omega), hk 3 (by omega), hk 4 (by omega)⟩⟩⟩
theorem row_set_at {W : World} {g o : Nat} {cs : List Value} (h : W.heap[g]? = some (.cells cs.toArray 35 (0, 0))) (v : Value) : (W.setCell ⟨g, o, none⟩ v).heap[g]? = some (.cells (cs.set o v).toArray 35 (0, 0)) := by
  have := row_set h (i := o) (v := v)
  simpa using this
theorem tO_put {W : World} {g i : Nat} {al : List Ta} (a : Ta) (h : W.heap[g]? = some (tO al)) (hi : i < al.length) :
    (((((W.setCell ⟨g, i * 5, none⟩ (.int .i64 a.k)).setCell ⟨g, i * 5 + 1, none⟩ (.int .i64 a.w)).setCell ⟨g, i * 5 + 2, none⟩ (.string a.t)).setCell ⟨g, i * 5 + 3, none⟩ (.bool a.la)).setCell ⟨g, i * 5 + 4, none⟩ (.bool a.lb)).heap[g]? = some (tO (al.set i a)) := by
  unfold tO
  rw [flatT_set al i a hi]
  exact row_set_at (row_set_at (row_set_at (row_set_at (row_set_at h _) _) _) _) _
theorem lone_put5 (g o0 o1 o2 o3 o4 : Nat) (W : World) (v0 v1 v2 v3 v4 : Value) : Lone g W (((((W.setCell ⟨g, o0, none⟩ v0).setCell ⟨g, o1, none⟩ v1).setCell ⟨g, o2, none⟩ v2).setCell ⟨g, o3, none⟩ v3).setCell ⟨g, o4, none⟩ v4) :=
  ((((lone_setCell g o0 W v0).trans (lone_setCell g o1 _ v1)).trans (lone_setCell g o2 _ v2)).trans (lone_setCell g o3 _ v3)).trans (lone_setCell g o4 _ v4)
end Go.Proofs.Ythonnlifgdnacaa
namespace Go.Proofs.Ythonnlifgdnacaa
open Go.RowKit
set_option maxHeartbeats 4000000
set_option maxRecDepth 20000
set_option linter.unusedVariables false
theorem make23 (n : Nat) (hn : n ≤ 2097152) (w : World) : (Instr.makeSlice 23 (.int .i64 (n : Int)) (.int .i64 (n : Int))).run Try.prog w = .ok (.slice (some ⟨w.heap.size, 0, none⟩) n n) (w.alloc (tO (List.replicate n ta0))) := by
  obtain ⟨k0, hk0, kz0, kz1, kz2⟩ := info_parts info35
  have h := run_makeSlice w (P := Try.prog) 23 35 k0 _ Try.underlying23 hk0 kz0 .i64 .i64 (n : Int) (n : Int) (by omega) (Int.le_refl _) (by rw [kz1]; omega) (by rw [kz2]; omega) (by omega)
  rw [kz1, Int.toNat_natCast] at h
  rw [h, tO]
  congr 3
  apply Array.ext_getElem?
  intro i
  by_cases hi : i < n * 5
  · have e := flatT_at (List.replicate n ta0) (i / 5) (i % 5) (by rw [List.length_replicate]; omega) (by omega)
    rw [show i / 5 * 5 + i % 5 = i by omega, List.getD_eq_getElem?_getD, List.getElem?_replicate, if_pos (by omega)] at e
    rw [show (flatT (List.replicate n ta0)).toArray[i]? = (flatT (List.replicate n ta0))[i]? from List.getElem?_toArray, e]
    have h5 : i % 5 < 5 := by omega
    simp [madeCells, Value.cells, hi]
    rcases (by omega : i % 5 = 0 ∨ i % 5 = 1 ∨ i % 5 = 2 ∨ i % 5 = 3 ∨ i % 5 = 4) with h | h | h | h | h <;> simp [h, ta0, noS]
  · have hl : (flatT (List.replicate n ta0)).length = n * 5 := by rw [flatT_len, List.length_replicate]
    rw [show (flatT (List.replicate n ta0)).toArray[i]? = (flatT (List.replicate n ta0))[i]? from List.getElem?_toArray, List.getElem?_eq_none (by omega)]
    simp [madeCells, hi]
structure TC (W : World) (g o : Nat) : Prop where
  c : ∃ a : Ta, AC g o a W
  z : ∀ k, W.frozen? ⟨g, k, none⟩ = false
theorem tO_tc {W : World} {g i : Nat} {al : List Ta} (h : W.heap[g]? = some (tO al)) (hi : i < al.length) : TC W g (i * 5) := by
  obtain ⟨A, c, e, h2⟩ := tO_acts (c := 0) h
  injection e with e _ _
  obtain ⟨b, off, hA, _, hc⟩ := h2 (by omega)
  rw [hA] at e
  injection e with e
  injection e with e1 e2 _
  subst e1 e2
  have := hc i hi
  rw [Nat.zero_add] at this
  exact ⟨⟨_, this⟩, fun k => row_free (cs := (flatT al).toArray) (by exact h)⟩
theorem to35 (v : Value) (al : List Ta) (w : World) (hv : actsV w v al) (hn : al.length ≤ 2097152) :
    Calls Try.prog 35 #[v] w fun e w' => e = .returned (.slice (some ⟨w.heap.size, 0, none⟩) al.length al.length) ∧ w'.heap[w.heap.size]? = some (tO al) ∧ Below w.heap.size w w' := by
  obtain ⟨A, cap, rfl, hc⟩ := hv
  have HC := hide hc
  obtain ⟨n, hnx⟩ : ∃ n, n = al.length := ⟨_, rfl⟩
  rw [← hnx] at hn HC ⊢
  have HN := hide hnx
  have mk := make23 n (by omega)
  clear hc hnx
  go_enter Try.func35, Try.ntmps35
  go_wp2
  clear mk
  go_loopw [4] (fun i wr => ∃ j : Nat, j ≤ n ∧ i = .int .i64 j ∧ wr.heap[w.heap.size]? = some (tO (mixG al (List.replicate n ta0) j)) ∧ Below w.heap.size w wr) (fun i _ => n - (intOf i).toNat)
  case atStart => exact ⟨0, by omega, rfl, by rw [mixG_zero, heap_at _ _ _ rfl], (Below.refl _ _).alloc (Nat.le_refl _) _⟩
  case round =>
    obtain ⟨j, hj, rfl, ho, hbl⟩ := hrel
    by_cases hlt : j < n
    · obtain ⟨b, off, hA, hbb, hcell⟩ := unhide HC (by omega)
      subst hA
      have q1 : (j : Int) < (n : Int) := by omega
      have q0 : (0 : Int) ≤ (j : Int) := by omega
      have hl : Hid ((mixG al (List.replicate n ta0) j).length = n) := hide (by rw [mixG_len _ _ _ (by simp [unhide HN])]; simp)
      obtain ⟨c0, c1, c2, c3, c4⟩ := (hcell j hlt).below hbl hbb
      have HMX := hide (mixG_succ ta0 al (List.replicate n ta0) j (by simp [unhide HN]) (by simpa using hlt))
      have HJ := hide hlt
      have HO := hide ho
      have HBL := hide hbl
      have HQ : Hid (w.heap.size < wr.heap.size) := hide (Array.getElem?_eq_some_iff.1 ho).1
      have K68 := hide (fun W => to68 (al.getD j ta0) W)
      clear ho hbl hcell hbb hlt hj
      generalize al.getD j ta0 = a at *
      obtain ⟨ak, aw, tt, la, lb⟩ := a
      generalize hg : w.heap.size = g at *
      dsimp only at *
      go_wp2_with (go_at_call 68; refine (unhide K68 _).mono ?_; rintro e w5 ⟨rfl, b5⟩; have HO5 := hide ((b5.block _ (unhide HQ)).trans (unhide HO)); have HB5 := hide (b5.mono (Nat.le_of_lt (unhide HQ))); obtain ⟨⟨⟨a0, a1, a2, a3, a4⟩, d0, d1, d2, d3, d4⟩, fz⟩ := tO_tc (unhide HO5) (by rw [unhide hl]; exact unhide HJ); clear b5)
      have fin := tO_put (i := j) ⟨ak, aw, tt, la, lb⟩ (unhide HO5) (by rw [unhide hl]; exact unhide HJ)
      rw [unhide HMX] at fin
      go_roundw
      case rel => exact ⟨j + 1, unhide HJ, by go_num, fin, bl_set (bl_set (bl_set (bl_set (bl_set ((unhide HBL).trans (unhide HB5)) (Nat.le_refl _)) (Nat.le_refl _)) (Nat.le_refl _)) (Nat.le_refl _)) (Nat.le_refl _)⟩
      case measure => have := unhide HJ; simp [intOf]; omega
    · obtain rfl : j = n := by omega
      have hm := mixG_all al (List.replicate j ta0) (by simp [unhide HN])
      rw [List.length_replicate] at hm
      rw [hm] at ho
      have HO := hide ho
      have hbel := hide hbl
      clear ho hbl hm
      go_wp2
      go_ret
      exact ⟨rfl, unhide HO, unhide hbel⟩
theorem eq38 (u v : Value) (al : List Ta) (w : World) (hu : actsV w u al) (hv : actsV w v al) (hn : al.length ≤ 2097152) :
    Calls Try.prog 38 #[u, v] w fun e w' => e = .returned (.bool true) ∧ Below w.heap.size w w' := by
  obtain ⟨A, ca, rfl, hc⟩ := hu
  obtain ⟨A2, cb, rfl, hd⟩ := hv
  have HC := hide hc
  have HD := hide hd
  obtain ⟨n, hnx⟩ : ∃ n, n = al.length := ⟨_, rfl⟩
  rw [← hnx] at hn HC HD ⊢
  clear hc hd hnx
  go_enter Try.func38, Try.ntmps38
  go_wp2
  go_loopw [5] (fun i wr => ∃ j : Nat, j ≤ n ∧ i = .int .i64 j ∧ Below w.heap.size w wr) (fun i _ => n - (intOf i).toNat)
  case atStart => exact ⟨0, by omega, rfl, Below.refl _ _⟩
  case round =>
    obtain ⟨j, hj, rfl, hb⟩ := hrel
    have HB := hide hb
    by_cases hlt : j < n
    · obtain ⟨b1, o1, hA, hb1, hc1⟩ := unhide HC (by omega)
      obtain ⟨b2, o2, hA2, hb2, hc2⟩ := unhide HD (by omega)
      subst hA hA2
      have q1 : (j : Int) < (n : Int) := by omega
      have q0 : (0 : Int) ≤ (j : Int) := by omega
      have CA := hide (fun W (h : Below wr.heap.size wr W) => (hc1 j hlt).below (bl_st h hb) hb1)
      have CB := hide (fun W (h : Below wr.heap.size wr W) => (hc2 j hlt).below (bl_st h hb) hb2)
      have K69 := hide (fun W => eq69 (al.getD j ta0) W)
      have HJ := hide hlt
      clear hc1 hc2 hlt hj hb hb1 hb2
      generalize al.getD j ta0 = a at *
      obtain ⟨ak, aw, tt, la, lb⟩ := a
      go_wp2_with fail
      refine wp_region_held (S := fun W' => Below wr.heap.size wr W') (by kernel_rfl) ?_
      have hS0 : Below wr.heap.size wr { wr with drawn := wr.drawn + 1 } := below_drewN (Below.refl _ _) 1
      obtain ⟨w4, hw4⟩ : ∃ x, x = ({ wr with drawn := wr.drawn + 1 } : World) := ⟨_, rfl⟩
      rw [← hw4] at hS0 ⊢
      clear hw4
      refine wpAnyH_take (i := 0) (oi := { dst := some 17, op := Op.move (Operand.tmp 0), type := 23, pos := "exact.go:1326", after := #[], guard := none }) (v := ?_) rfl (by kernel_rfl) (by kernel_rfl) (by kernel_rfl) (fun _ _ _ h => h) (Or.inl ⟨by rfl, ?_⟩) hS0 ?_
      rotate_left
      · intro W hSw
        go_simp
        try with_reducible rfl
      simp only [Act.put, List.setIfInBounds_toArray, List.set_cons_zero, List.set_cons_succ]
      refine wpAnyH_take (i := 1) (oi := { dst := some 18, op := Op.move (Operand.tmp 5), type := 3, pos := "exact.go:1326", after := #[], guard := none }) (v := ?_) rfl (by kernel_rfl) (by kernel_rfl) (by kernel_rfl) (fun _ _ _ h => h) (Or.inl ⟨by rfl, ?_⟩) hS0 ?_
      rotate_left
      · intro W hSw
        go_simp
        try with_reducible rfl
      simp only [Act.put, List.setIfInBounds_toArray, List.set_cons_zero, List.set_cons_succ]
      refine wpAnyH_take (i := 2) (oi := { dst := some 19, op := Op.indexAddr 23 (Operand.tmp 17) (Operand.tmp 18), type := 0, pos := "exact.go:1326", after := #[{ on := 0, ground := Ground.data }, { on := 1, ground := Ground.data }], guard := none }) (v := ?_) rfl (by kernel_rfl) (by kernel_rfl) (by kernel_rfl) (fun _ _ _ h => h) (Or.inl ⟨by rfl, ?_⟩) hS0 ?_
      rotate_left
      · intro W hSw
        go_simp
        try with_reducible rfl
      simp only [Act.put, List.setIfInBounds_toArray, List.set_cons_zero, List.set_cons_succ]
      refine wpAnyH_take (i := 3) (oi := { dst := some 20, op := Op.load 35 (Operand.tmp 19), type := 35, pos := "exact.go:1326", after := #[{ on := 2, ground := Ground.data }], guard := none }) (v := ?_) rfl (by kernel_rfl) (by kernel_rfl) (by kernel_rfl) (fun _ _ _ h => h) (Or.inl ⟨by rfl, ?_⟩) hS0 ?_
      rotate_left
      · intro W hSw
        obtain ⟨c0, c1, c2, c3, c4⟩ := unhide CA W hSw
        obtain ⟨d0, d1, d2, d3, d4⟩ := unhide CB W hSw
        go_simp
        try with_reducible rfl
      simp only [Act.put, List.setIfInBounds_toArray, List.set_cons_zero, List.set_cons_succ]
      refine wpAnyH_take (i := 4) (oi := { dst := some 21, op := Op.move (Operand.tmp 1), type := 23, pos := "exact.go:1326", after := #[], guard := none }) (v := ?_) rfl (by kernel_rfl) (by kernel_rfl) (by kernel_rfl) (fun _ _ _ h => h) (Or.inl ⟨by rfl, ?_⟩) hS0 ?_
      rotate_left
      · intro W hSw
        go_simp
        try with_reducible rfl
      simp only [Act.put, List.setIfInBounds_toArray, List.set_cons_zero, List.set_cons_succ]
      refine wpAnyH_take (i := 5) (oi := { dst := some 22, op := Op.move (Operand.tmp 5), type := 3, pos := "exact.go:1326", after := #[], guard := none }) (v := ?_) rfl (by kernel_rfl) (by kernel_rfl) (by kernel_rfl) (fun _ _ _ h => h) (Or.inl ⟨by rfl, ?_⟩) hS0 ?_
      rotate_left
      · intro W hSw
        go_simp
        try with_reducible rfl
      simp only [Act.put, List.setIfInBounds_toArray, List.set_cons_zero, List.set_cons_succ]
      refine wpAnyH_take (i := 6) (oi := { dst := some 23, op := Op.indexAddr 23 (Operand.tmp 21) (Operand.tmp 22), type := 0, pos := "exact.go:1326", after := #[{ on := 4, ground := Ground.data }, { on := 5, ground := Ground.data }], guard := none }) (v := ?_) rfl (by kernel_rfl) (by kernel_rfl) (by kernel_rfl) (fun _ _ _ h => h) (Or.inl ⟨by rfl, ?_⟩) hS0 ?_
      rotate_left
      · intro W hSw
        go_simp
        try with_reducible rfl
      simp only [Act.put, List.setIfInBounds_toArray, List.set_cons_zero, List.set_cons_succ]
      refine wpAnyH_take (i := 7) (oi := { dst := some 24, op := Op.load 35 (Operand.tmp 23), type := 35, pos := "exact.go:1326", after := #[{ on := 6, ground := Ground.data }], guard := none }) (v := ?_) rfl (by kernel_rfl) (by kernel_rfl) (by kernel_rfl) (fun _ _ _ h => h) (Or.inl ⟨by rfl, ?_⟩) hS0 ?_
      rotate_left
      · intro W hSw
        obtain ⟨c0, c1, c2, c3, c4⟩ := unhide CA W hSw
        obtain ⟨d0, d1, d2, d3, d4⟩ := unhide CB W hSw
        go_simp
        try with_reducible rfl
      simp only [Act.put, List.setIfInBounds_toArray, List.set_cons_zero, List.set_cons_succ]
      refine wpAnyH_one (i := 8) (by kernel_rfl) ?_
      refine wpOp_step (o := { dst := some 25, op := Op.call { callee := Callee.value (Operand.func 69), args := #[Operand.tmp 20, Operand.tmp 24], argTypes := #[35, 35] }, type := 4, pos := "exact.go:1326", after := #[{ on := 3, ground := Ground.data }, { on := 7, ground := Ground.data }], guard := none }) rfl fun K' hK => step_enterW (by rfl) 69 #[taA ak aw tt la lb, taA ak aw tt la lb] (by go_simp) ((unhide K69 _).mono ?_)
      rintro e w5 ⟨rfl, b5⟩
      have s5 := bl_st b5 hS0
      clear b5

      refine ⟨_, rfl, hK _ _ ⟨s5, ?_⟩⟩
      simp only [Act.put, List.setIfInBounds_toArray, List.set_cons_zero, List.set_cons_succ]
      refine wpAnyH_take (i := 9) (oi := { dst := some 26, op := Op.unOp UnOp.not 4 (Operand.tmp 25), type := 4, pos := "exact.go:1326", after := #[{ on := 8, ground := Ground.data }], guard := none }) (v := ?_) rfl (by kernel_rfl) (by kernel_rfl) (by kernel_rfl) (fun _ _ _ h => h) (Or.inl ⟨by rfl, ?_⟩) s5 ?_
      rotate_left
      · intro W hSw
        go_simp
        try with_reducible rfl
      simp only [Act.put, List.setIfInBounds_toArray, List.set_cons_zero, List.set_cons_succ]
      refine wpAnyH_done (by kernel_rfl) ?_ _
      have HB5 := hide (bl_st s5 (unhide HB))
      clear hS0 s5
      go_wp2
      go_roundw
      case rel => exact ⟨j + 1, unhide HJ, by go_num, unhide HB5⟩
      case measure => have := unhide HJ; simp [intOf]; omega
    · obtain rfl : j = n := by omega
      clear hlt hb
      go_wp2
      go_ret
      exact ⟨rfl, unhide HB⟩
end Go.Proofs.Ythonnlifgdnacaa
namespace Go.Proofs.Ythonnlifgdnacaa
open Go.RowKit
set_option maxHeartbeats 4000000
set_option maxRecDepth 20000
set_option linter.unusedVariables false
/-- a block of so many cells -/
def nC (W : World) (g N : Nat) : Prop := ∃ cs : List Value, W.heap[g]? = some (.cells cs.toArray 35 (0, 0)) ∧ cs.length = N
theorem nC.put {W : World} {g N : Nat} (h : nC W g N) (o : Nat) (v : Value) : nC (W.setCell ⟨g, o, none⟩ v) g N := by
  obtain ⟨cs, h, e⟩ := h
  exact ⟨_, row_set_at h v, by simpa using e⟩
theorem nC.below {W W' : World} {g N : Nat} (h : nC W g N) (hb : Below W.heap.size W W') : nC W' g N := by
  obtain ⟨cs, h, e⟩ := h
  exact ⟨cs, (hb.block _ (Array.getElem?_eq_some_iff.1 h).1).trans h, e⟩
theorem nC.cell {W : World} {g N : Nat} (h : nC W g N) (o : Nat) (ho : o < N) : ∃ v, W.cell? ⟨g, o, none⟩ = some v := by
  obtain ⟨cs, h, e⟩ := h
  exact ⟨cs[o]'(by omega), by rw [row_cell h]; simp [show o < cs.length by omega]⟩
theorem nC.free {W : World} {g N : Nat} (h : nC W g N) (o : Nat) : W.frozen? ⟨g, o, none⟩ = false := by
  obtain ⟨cs, h, e⟩ := h
  exact row_free h
theorem tO_nC {W : World} {g : Nat} {al : List Ta} (h : W.heap[g]? = some (tO al)) : nC W g (al.length * 5) := ⟨_, h, flatT_len al⟩
theorem mt70 (k : Nat) (hk : k ≤ 16777216) (w : World) : Calls Try.prog 70 #[.int .i64 (k : Int)] w fun e w' => e = .returned (.string (mkT k)) ∧ Below w.heap.size w w' := by
  by_cases h0 : k = 0
  · subst h0
    go_enter Try.func70, Try.ntmps70
    go_wp2
    go_ret
    exact ⟨rfl, Below.refl _ _⟩
  · have hT : mkT k = ⟨#[109]⟩ ++ decF k k noS := by unfold mkT; rw [if_neg h0]
    have q : (0 : Int) < (k : Int) := by omega
    rw [hT]
    generalize hD : decF k k noS = D
    clear hT
    go_enter Try.func70, Try.ntmps70
    go_wp2
    go_loopw [0, 3] (fun kk ss wr => ∃ (f m : Nat) (s : ByteArray), kk = .int .i64 (m : Int) ∧ ss = .string s ∧ m ≤ f ∧ s.size + m ≤ 16777216 ∧ decF f m s = D ∧ Below w.heap.size w wr) (fun kk _ _ => (intOf kk).toNat)
    case atStart => exact ⟨k, k, noS, rfl, rfl, Nat.le_refl _, by show 0 + k ≤ _; omega, hD, Below.refl _ _⟩
    case round =>
      obtain ⟨f, m, s, rfl, rfl, hm, hm4, hd, hb⟩ := hrel
      by_cases hm0 : m = 0
      · have : s = D := by
          rw [← hd, hm0]
          cases f <;> rfl
        subst this
        have e : (m : Int) = 0 := by omega
        rw [e]
        have HB := hide hb
        have z1 : 1 + s.size ≤ 9223372036854775807 := by omega
        clear hb hd hm hm4 hm0 e
        go_wp2
        go_ret
        exact ⟨rfl, unhide HB⟩
      · obtain ⟨f', rfl⟩ : ∃ f', f = f' + 1 := ⟨f - 1, by omega⟩
        rw [decF, if_neg hm0] at hd
        have q1 : (0 : Int) < (m : Int) := by omega
        have q2 : (m : Int) ≤ 16777216 := by omega
        obtain ⟨x, hx⟩ : ∃ x : Int, (48 : Int) + (m : Int) % 10 = x := ⟨_, rfl⟩
        have x0 : 0 ≤ x := by omega
        have x1 : x < 256 := by omega
        have ex : ((48 + m % 10 : Nat) : Int) = x := by omega
        rw [ex] at hd
        have t1 : Int.tmod (m : Int) 10 = (m : Int) % 10 := by rw [Int.tmod_eq_emod_of_nonneg (by omega)]
        have t2 : Int.tdiv (m : Int) 10 = ((m / 10 : Nat) : Int) := by rw [Int.tdiv_eq_ediv_of_nonneg (by omega)]; omega
        have bn := bytes_new wr x ⟨x0, x1⟩
        have cvx : (convert 22 9 (.slice (some ⟨wr.heap.size, 0, none⟩) 1 1)).run Try.prog (wr.alloc (.cells #[.int .u8 x] 5)) = .ok (.string (strOfNums [x])) (wr.alloc (.cells #[.int .u8 x] 5)) := by
          obtain ⟨A, c, e, _, hh⟩ := bn
          obtain ⟨b, off, hA, hl, hcell⟩ := hh (by simp)
          simp only [Value.slice.injEq] at e
          obtain ⟨e1, _, _⟩ := e
          rw [hA] at e1
          simp only [Option.some.injEq, Addr.mk.injEq, and_true] at e1
          obtain ⟨rfl, rfl⟩ := e1
          exact rowAt.conv ⟨hl, hcell⟩ 1 1 rfl
        have HD := hide hd
        have HB := hide (bl_al (o := .cells #[.int .u8 x] 5) hb)
        have HM := hide hm
        have HM4 := hide hm4
        clear bn hd hb hm hm4 ex
        have c1 : (strOfNums [x]).size = 1 := strOfNums_size [x]
        generalize strOfNums [x] = cx at *
        have z1 : cx.size + s.size ≤ 9223372036854775807 := by have := unhide HM4; omega
        have HS : Hid ((cx ++ s).size + m / 10 ≤ 16777216) := hide (by have := unhide HM4; rw [ByteArray.size_append, c1]; omega)
        have HM0 := hide hm0
        clear hm0 c1
        go_wp2
        go_roundw
        case rel => exact ⟨f', m / 10, _, by first | rfl | go_num, rfl, by have := unhide HM; have := unhide HM0; omega, unhide HS, unhide HD, unhide HB⟩
        case measure => have := unhide HM0; simp [intOf]; omega
theorem mark39 (g n : Nat) (w : World) (hc : nC w g (n * 5)) (hn : n ≤ 1048576) :
    Calls Try.prog 39 #[.slice (some ⟨g, 0, none⟩) n n, .int .i64 1] w fun e w' => e = .returned (.int .i64 (1 + 5 * (n : Int))) ∧ Lone g w w' := by
  have HC := hide hc
  clear hc
  go_enter Try.func39, Try.ntmps39
  go_wp2
  go_loopw [1, 5] (fun k i wr => ∃ j : Nat, j ≤ n ∧ i = .int .i64 j ∧ k = .int .i64 (1 + 5 * (j : Int)) ∧ nC wr g (n * 5) ∧ Lone g w wr) (fun _ i _ => n - (intOf i).toNat)
  case atStart => exact ⟨0, by omega, rfl, by simp, unhide HC, Lone.refl _ _⟩
  case round =>
    obtain ⟨j, hj, rfl, rfl, ho, hlo⟩ := hrel
    by_cases hlt : j < n
    · have q1 : (j : Int) < (n : Int) := by omega
      have q0 : (0 : Int) ≤ (j : Int) := by omega
      have q2 : (n : Int) ≤ 1048576 := by omega
      obtain ⟨z, hz⟩ : ∃ z : Nat, z = 1 + 5 * j := ⟨_, rfl⟩
      have hzi : 1 + 5 * (j : Int) = (z : Int) := by omega
      rw [hzi]
      have z0 : (0 : Int) ≤ (z : Int) := by omega
      have z1 : (z : Int) ≤ 5242881 := by omega
      have hm := hide (fun W => mt70 (z + 2) (by omega) W)
      have HZ := hide hzi
      have n1 := ho.put (j * 5) (.int .i64 (z : Int))
      have n2 := n1.put (j * 5 + 1) (.int .i64 ((z : Int) + 1))
      obtain ⟨v0, p0⟩ := ho.cell (j * 5) (by omega)
      obtain ⟨v1, p1⟩ := n1.cell (j * 5 + 1) (by omega)
      have f0 := ho.free (j * 5)
      have f1 := n1.free (j * 5 + 1)
      have e2 : ((z + 2 : Nat) : Int) = (z : Int) + 1 + 1 := by omega
      rw [e2] at hm
      have HJ := hide hlt
      have N2 := hide n2
      have HL := hide (hlo.trans ((lone_setCell g (j * 5) wr (.int .i64 (z : Int))).trans (lone_setCell g (j * 5 + 1) _ (.int .i64 ((z : Int) + 1)))))
      clear hlt hj ho hlo HC hz n1 n2 e2 hzi
      generalize mkT (z + 2) = tx at *
      go_wp2_with (go_at_call 70; refine (unhide hm _).mono ?_; rintro e w1 ⟨rfl, b1⟩; have m2 := (unhide N2).below b1; have L1 := hide ((unhide HL).trans (Lone.of_below b1)); obtain ⟨v2, p2⟩ := m2.cell (j * 5 + 2) (by have := unhide HJ; omega); have f2 := m2.free (j * 5 + 2); have m3 := m2.put (j * 5 + 2) (.string tx); obtain ⟨v3, p3⟩ := m3.cell (j * 5 + 3) (by have := unhide HJ; omega); have f3 := m3.free (j * 5 + 3); have m4 := m3.put (j * 5 + 3) (.bool (((z : Int) + 1 + 1 + 1) % 3 == 0)); obtain ⟨v4, p4⟩ := m4.cell (j * 5 + 4) (by have := unhide HJ; omega); have f4 := m4.free (j * 5 + 4); have M5 := hide (m4.put (j * 5 + 4) (.bool (((z : Int) + 1 + 1 + 1 + 1) % 3 == 0))); have L5 := hide ((unhide L1).trans ((lone_setCell g (j * 5 + 2) w1 (.string tx)).trans ((lone_setCell g (j * 5 + 3) _ (.bool (((z : Int) + 1 + 1 + 1) % 3 == 0))).trans (lone_setCell g (j * 5 + 4) _ (.bool (((z : Int) + 1 + 1 + 1 + 1) % 3 == 0)))))); clear m4; clear m2 m3 b1)
      go_roundw
      case rel => exact ⟨j + 1, unhide HJ, by go_num, by have := unhide HZ; rw [Value.int.injEq]; exact ⟨rfl, by omega⟩, unhide M5, unhide L5⟩
      case measure => have := unhide HJ; simp [intOf]; omega
    · obtain rfl : j = n := by omega
      have HL := hide hlo
      clear ho hlo hlt
      go_wp2
      go_ret
      exact ⟨rfl, unhide HL⟩
end Go.Proofs.Ythonnlifgdnacaa
namespace Go.Proofs.Ythonnlifgdnacaa
open Go.RowKit
set_option maxHeartbeats 4000000
set_option maxRecDepth 20000
set_option linter.unusedVariables false
theorem row8.set1 {W : World} {g : Nat} {a0 a1 a2 a3 a4 a5 a6 a7 : Value} {rest : List Value} (h : row8 W g a0 a1 a2 a3 a4 a5 a6 a7 rest) (b : Value) : row8 (W.setCell ⟨g, 1, none⟩ b) g a0 b a2 a3 a4 a5 a6 a7 rest := by
  have := row_set (i := 1) (v := b) h
  simpa [row8] using this
theorem row8.set2 {W : World} {g : Nat} {a0 a1 a2 a3 a4 a5 a6 a7 : Value} {rest : List Value} (h : row8 W g a0 a1 a2 a3 a4 a5 a6 a7 rest) (b : Value) : row8 (W.setCell ⟨g, 2, none⟩ b) g a0 a1 b a3 a4 a5 a6 a7 rest := by
  have := row_set (i := 2) (v := b) h
  simpa [row8] using this
theorem row8.set5 {W : World} {g : Nat} {a0 a1 a2 a3 a4 a5 a6 a7 : Value} {rest : List Value} (h : row8 W g a0 a1 a2 a3 a4 a5 a6 a7 rest) (b : Value) : row8 (W.setCell ⟨g, 5, none⟩ b) g a0 a1 a2 a3 a4 b a6 a7 rest := by
  have := row_set (i := 5) (v := b) h
  simpa [row8] using this
theorem row8.set6 {W : World} {g : Nat} {a0 a1 a2 a3 a4 a5 a6 a7 : Value} {rest : List Value} (h : row8 W g a0 a1 a2 a3 a4 a5 a6 a7 rest) (b : Value) : row8 (W.setCell ⟨g, 6, none⟩ b) g a0 a1 a2 a3 a4 a5 b a7 rest := by
  have := row_set (i := 6) (v := b) h
  simpa [row8] using this
/-- only block g and blocks from base on have turned -/
structure TouchT (base g : Nat) (w w' : World) : Prop where
  os : w'.os = w.os
  tape : w'.tape = w.tape
  output : w'.output = w.output
  size : w.heap.size ≤ w'.heap.size
  block : ∀ k, k < w.heap.size → k ≠ g → k < base → w'.heap[k]? = w.heap[k]?
theorem TouchT.refl (base g : Nat) (w : World) : TouchT base g w w := ⟨rfl, rfl, rfl, Nat.le_refl _, fun _ _ _ _ => rfl⟩
theorem TouchT.trans {base g : Nat} {a b c : World} (h : TouchT base g a b) (k : TouchT base g b c) : TouchT base g a c :=
  ⟨k.os.trans h.os, k.tape.trans h.tape, k.output.trans h.output, Nat.le_trans h.size k.size, fun i hi h1 h2 => (k.block i (Nat.lt_of_lt_of_le hi h.size) h1 h2).trans (h.block i hi h1 h2)⟩
/-- two peers, part by part -/
structure PS (w : World) (base g lo0 hi0 lo1 hi1 : Nat) (q0 i0 q1 i1 : Value) (a0 b0 a1 b1 : List ByteArray) (v1 v2 v5 v6 : Value) (W : World) : Prop where
  row : row8 W g q0 v1 v2 i0 q1 v5 v6 i1 []
  oq0 : ownG lo0 hi0 W q0 a0
  oi0 : ownG lo0 hi0 W i0 b0
  oq1 : ownG lo1 hi1 W q1 a1
  oi1 : ownG lo1 hi1 W i1 b1
  s0 : ∀ k, q0.ownBlock = some k → i0.ownBlock ≠ some k
  s1 : ∀ k, q1.ownBlock = some k → i1.ownBlock ≠ some k
  dg : g < base
  d0 : base ≤ lo0
  d1 : base ≤ lo1
  e0 : hi0 ≤ w.heap.size
  e1 : hi1 ≤ w.heap.size
  dj : hi0 ≤ lo1 ∨ hi1 ≤ lo0
  to : TouchT base g w W
section
variable {w : World} {base g lo0 hi0 lo1 hi1 : Nat} {q0 i0 q1 i1 : Value} {a0 b0 a1 b1 : List ByteArray} {v1 v2 v5 v6 : Value} {W : World}
theorem PS.mq0 (h : PS w base g lo0 hi0 lo1 hi1 q0 i0 q1 i1 a0 b0 a1 b1 v1 v2 v5 v6 W) {X : World} {c : List ByteArray} (ho : ownG lo0 hi0 X q0 c) (ht : TouchS q0 W X) : PS w base g lo0 hi0 lo1 hi1 q0 i0 q1 i1 c b0 a1 b1 v1 v2 v5 v6 X :=
  have hR := TouchR.of_touch ht h.oq0.lies
  ⟨(hR.block g h.row.lt (by have := h.d0; have := h.dg; omega)).trans h.row, ho, h.oi0.touchS ht (fun k e1 e2 => h.s0 k e2 e1), h.oq1.touchR (TouchR.of_touch ht h.oq0.lies) (by have := h.dj; omega), h.oi1.touchR (TouchR.of_touch ht h.oq0.lies) (by have := h.dj; omega), h.s0, h.s1, h.dg, h.d0, h.d1, h.e0, h.e1, h.dj, h.to.trans ⟨ht.os, ht.tape, ht.output, ht.size, fun k hk hg hb => hR.block k hk (by have := h.d0; omega)⟩⟩
theorem PS.mi0 (h : PS w base g lo0 hi0 lo1 hi1 q0 i0 q1 i1 a0 b0 a1 b1 v1 v2 v5 v6 W) {X : World} {c : List ByteArray} (ho : ownG lo0 hi0 X i0 c) (ht : TouchS i0 W X) : PS w base g lo0 hi0 lo1 hi1 q0 i0 q1 i1 a0 c a1 b1 v1 v2 v5 v6 X :=
  have hR := TouchR.of_touch ht h.oi0.lies
  ⟨(hR.block g h.row.lt (by have := h.d0; have := h.dg; omega)).trans h.row, h.oq0.touchS ht (fun k e1 e2 => h.s0 k e1 e2), ho, h.oq1.touchR (TouchR.of_touch ht h.oi0.lies) (by have := h.dj; omega), h.oi1.touchR (TouchR.of_touch ht h.oi0.lies) (by have := h.dj; omega), h.s0, h.s1, h.dg, h.d0, h.d1, h.e0, h.e1, h.dj, h.to.trans ⟨ht.os, ht.tape, ht.output, ht.size, fun k hk hg hb => hR.block k hk (by have := h.d0; omega)⟩⟩
theorem PS.mq1 (h : PS w base g lo0 hi0 lo1 hi1 q0 i0 q1 i1 a0 b0 a1 b1 v1 v2 v5 v6 W) {X : World} {c : List ByteArray} (ho : ownG lo1 hi1 X q1 c) (ht : TouchS q1 W X) : PS w base g lo0 hi0 lo1 hi1 q0 i0 q1 i1 a0 b0 c b1 v1 v2 v5 v6 X :=
  have hR := TouchR.of_touch ht h.oq1.lies
  ⟨(hR.block g h.row.lt (by have := h.d1; have := h.dg; omega)).trans h.row, h.oq0.touchR (TouchR.of_touch ht h.oq1.lies) (by have := h.dj; omega), h.oi0.touchR (TouchR.of_touch ht h.oq1.lies) (by have := h.dj; omega), ho, h.oi1.touchS ht (fun k e1 e2 => h.s1 k e2 e1), h.s0, h.s1, h.dg, h.d0, h.d1, h.e0, h.e1, h.dj, h.to.trans ⟨ht.os, ht.tape, ht.output, ht.size, fun k hk hg hb => hR.block k hk (by have := h.d1; omega)⟩⟩
theorem PS.mi1 (h : PS w base g lo0 hi0 lo1 hi1 q0 i0 q1 i1 a0 b0 a1 b1 v1 v2 v5 v6 W) {X : World} {c : List ByteArray} (ho : ownG lo1 hi1 X i1 c) (ht : TouchS i1 W X) : PS w base g lo0 hi0 lo1 hi1 q0 i0 q1 i1 a0 b0 a1 c v1 v2 v5 v6 X :=
  have hR := TouchR.of_touch ht h.oi1.lies
  ⟨(hR.block g h.row.lt (by have := h.d1; have := h.dg; omega)).trans h.row, h.oq0.touchR (TouchR.of_touch ht h.oi1.lies) (by have := h.dj; omega), h.oi0.touchR (TouchR.of_touch ht h.oi1.lies) (by have := h.dj; omega), h.oq1.touchS ht (fun k e1 e2 => h.s1 k e1 e2), ho, h.s0, h.s1, h.dg, h.d0, h.d1, h.e0, h.e1, h.dj, h.to.trans ⟨ht.os, ht.tape, ht.output, ht.size, fun k hk hg hb => hR.block k hk (by have := h.d1; omega)⟩⟩
theorem PS.s1x (h : PS w base g lo0 hi0 lo1 hi1 q0 i0 q1 i1 a0 b0 a1 b1 v1 v2 v5 v6 W) (b : Value) : PS w base g lo0 hi0 lo1 hi1 q0 i0 q1 i1 a0 b0 a1 b1 b v2 v5 v6 (W.setCell ⟨g, 1, none⟩ b) :=
  have hl := lone_setCell g 1 W b
  ⟨h.row.set1 b, h.oq0.lone hl (by have := h.d0; have := h.dg; omega), h.oi0.lone hl (by have := h.d0; have := h.dg; omega), h.oq1.lone hl (by have := h.d1; have := h.dg; omega), h.oi1.lone hl (by have := h.d1; have := h.dg; omega), h.s0, h.s1, h.dg, h.d0, h.d1, h.e0, h.e1, h.dj, h.to.trans ⟨hl.os, hl.tape, hl.output, hl.size, fun k hk hg hb => hl.block k hk hg⟩⟩
theorem PS.s2x (h : PS w base g lo0 hi0 lo1 hi1 q0 i0 q1 i1 a0 b0 a1 b1 v1 v2 v5 v6 W) (b : Value) : PS w base g lo0 hi0 lo1 hi1 q0 i0 q1 i1 a0 b0 a1 b1 v1 b v5 v6 (W.setCell ⟨g, 2, none⟩ b) :=
  have hl := lone_setCell g 2 W b
  ⟨h.row.set2 b, h.oq0.lone hl (by have := h.d0; have := h.dg; omega), h.oi0.lone hl (by have := h.d0; have := h.dg; omega), h.oq1.lone hl (by have := h.d1; have := h.dg; omega), h.oi1.lone hl (by have := h.d1; have := h.dg; omega), h.s0, h.s1, h.dg, h.d0, h.d1, h.e0, h.e1, h.dj, h.to.trans ⟨hl.os, hl.tape, hl.output, hl.size, fun k hk hg hb => hl.block k hk hg⟩⟩
theorem PS.s5x (h : PS w base g lo0 hi0 lo1 hi1 q0 i0 q1 i1 a0 b0 a1 b1 v1 v2 v5 v6 W) (b : Value) : PS w base g lo0 hi0 lo1 hi1 q0 i0 q1 i1 a0 b0 a1 b1 v1 v2 b v6 (W.setCell ⟨g, 5, none⟩ b) :=
  have hl := lone_setCell g 5 W b
  ⟨h.row.set5 b, h.oq0.lone hl (by have := h.d0; have := h.dg; omega), h.oi0.lone hl (by have := h.d0; have := h.dg; omega), h.oq1.lone hl (by have := h.d1; have := h.dg; omega), h.oi1.lone hl (by have := h.d1; have := h.dg; omega), h.s0, h.s1, h.dg, h.d0, h.d1, h.e0, h.e1, h.dj, h.to.trans ⟨hl.os, hl.tape, hl.output, hl.size, fun k hk hg hb => hl.block k hk hg⟩⟩
theorem PS.s6x (h : PS w base g lo0 hi0 lo1 hi1 q0 i0 q1 i1 a0 b0 a1 b1 v1 v2 v5 v6 W) (b : Value) : PS w base g lo0 hi0 lo1 hi1 q0 i0 q1 i1 a0 b0 a1 b1 v1 v2 v5 b (W.setCell ⟨g, 6, none⟩ b) :=
  have hl := lone_setCell g 6 W b
  ⟨h.row.set6 b, h.oq0.lone hl (by have := h.d0; have := h.dg; omega), h.oi0.lone hl (by have := h.d0; have := h.dg; omega), h.oq1.lone hl (by have := h.d1; have := h.dg; omega), h.oi1.lone hl (by have := h.d1; have := h.dg; omega), h.s0, h.s1, h.dg, h.d0, h.d1, h.e0, h.e1, h.dj, h.to.trans ⟨hl.os, hl.tape, hl.output, hl.size, fun k hk hg hb => hl.block k hk hg⟩⟩
end
def mkPe (p : Pe) (K : Nat) : Pe := ⟨marksK K p.q.length, ((K + p.q.length : Nat) : Int), ((K + p.q.length + 1 : Nat) : Int), marksK (K + p.q.length + 2) p.i.length⟩
def lenP (p : Pe) : Nat := p.q.length + 2 + p.i.length
def markT (z : Tw) (K : Nat) : Tw := ⟨mkPe z.x K, mkPe z.y (K + lenP z.x)⟩
def lenT (z : Tw) : Nat := lenP z.x + lenP z.y
def few8 (z : Tw) : Prop := z.x.q.length ≤ 1000 ∧ z.x.i.length ≤ 1000 ∧ z.y.q.length ≤ 1000 ∧ z.y.i.length ≤ 1000
theorem PS.two {w : World} {base g lo0 hi0 lo1 hi1 : Nat} {q0 i0 q1 i1 : Value} {z : Tw} {W : World} (h : PS w base g lo0 hi0 lo1 hi1 q0 i0 q1 i1 z.x.q z.x.i z.y.q z.y.i (.int .i64 z.x.s) (.int .i64 z.x.e) (.int .i64 z.y.s) (.int .i64 z.y.e) W) : TwO base g z W :=
  ⟨q0, i0, q1, i1, lo0, hi0, lo1, hi1, h.row, ⟨q0, i0, rfl, h.oq0, h.oi0, h.s0⟩, ⟨q1, i1, rfl, h.oq1, h.oi1, h.s1⟩, h.dg, h.d0, h.d1, Nat.le_trans h.e0 h.to.size, Nat.le_trans h.e1 h.to.size, h.dj⟩
theorem ps_of {base g : Nat} {z : Tw} {w : World} (h : TwO base g z w) : ∃ lo0 hi0 lo1 hi1 q0 i0 q1 i1, PS w base g lo0 hi0 lo1 hi1 q0 i0 q1 i1 z.x.q z.x.i z.y.q z.y.i (.int .i64 z.x.s) (.int .i64 z.x.e) (.int .i64 z.y.s) (.int .i64 z.y.e) w := by
  obtain ⟨q0, i0, q1, i1, lo0, hi0, lo1, hi1, hr, ⟨_, _, ex, x1, x2, x3⟩, ⟨_, _, ey, y1, y2, y3⟩, h1, h2, h3, h4, h5, h6⟩ := h
  obtain ⟨rfl, rfl⟩ := peA_inj ex
  obtain ⟨rfl, rfl⟩ := peA_inj ey
  exact ⟨lo0, hi0, lo1, hi1, _, _, _, _, hr, x1, x2, y1, y2, x3, y3, h1, h2, h3, h4, h5, h6, TouchT.refl _ _ _⟩
theorem mark40 (base g : Nat) (z : Tw) (w : World) (h : TwO base g z w) (hn : few8 z) :
    Calls Try.prog 40 #[.slice (some ⟨g, 0, none⟩) 2 2, .int .i64 1] w fun e w' => e = .returned (.int .i64 ((1 + lenT z : Nat) : Int)) ∧ TwO base g (markT z 1) w' ∧ TouchT base g w w' := by
  obtain ⟨lo0, hi0, lo1, hi1, q0, i0, q1, i1, ps⟩ := ps_of h
  obtain ⟨⟨xq, xs, xe, xi⟩, ⟨yq, ys, ye, yi⟩⟩ := z
  obtain ⟨n1, n2, n3, n4⟩ := hn
  dsimp only [markT, mkPe, lenT, lenP] at *
  have P0 := hide ps
  obtain ⟨A0, C0, rfl, _⟩ := ps.oq0.cap
  obtain ⟨A1, C1, rfl, _⟩ := ps.oi0.cap
  obtain ⟨A2, C2, rfl, _⟩ := ps.oq1.cap
  obtain ⟨A3, C3, rfl, _⟩ := ps.oi1.cap
  obtain ⟨c0, c1, c2, c3, c4, c5, c6, c7⟩ := ps.row.cells
  have KA := hide (markG lo0 hi0 _ xq 1 w ps.oq0 (by omega) (by omega))
  have KB := hide (fun W (h : ownG lo0 hi0 W (.slice A1 xi.length C1) xi) => markG lo0 hi0 _ xi (1 + xq.length + 2) W h (by omega) (by omega))
  have KC := hide (fun W (h : ownG lo1 hi1 W (.slice A2 yq.length C2) yq) => markG lo1 hi1 _ yq (1 + (xq.length + 2 + xi.length)) W h (by omega) (by omega))
  have KD := hide (fun W (h : ownG lo1 hi1 W (.slice A3 yi.length C3) yi) => markG lo1 hi1 _ yi (1 + (xq.length + 2 + xi.length) + yq.length + 2) W h (by omega) (by omega))
  obtain ⟨r1, hr1⟩ : ∃ r : Int, r = ((1 + xq.length : Nat) : Int) := ⟨_, rfl⟩
  obtain ⟨r2, hr2⟩ : ∃ r : Int, r = ((1 + (xq.length + 2 + xi.length) : Nat) : Int) := ⟨_, rfl⟩
  obtain ⟨r3, hr3⟩ : ∃ r : Int, r = ((1 + (xq.length + 2 + xi.length) + yq.length : Nat) : Int) := ⟨_, rfl⟩
  obtain ⟨r4, hr4⟩ : ∃ r : Int, r = ((1 + (xq.length + 2 + xi.length + (yq.length + 2 + yi.length)) : Nat) : Int) := ⟨_, rfl⟩
  rw [show ((1 : Nat) : Int) + (xq.length : Int) = r1 by omega] at KA
  rw [show ((1 + xq.length + 2 : Nat) : Int) = r1 + 1 + 1 by omega, show r1 + 1 + 1 + (xi.length : Int) = r2 by omega] at KB
  rw [show ((1 + (xq.length + 2 + xi.length) : Nat) : Int) = r2 by omega, show r2 + (yq.length : Int) = r3 by omega] at KC
  rw [show ((1 + (xq.length + 2 + xi.length) + yq.length + 2 : Nat) : Int) = r3 + 1 + 1 by omega, show r3 + 1 + 1 + (yi.length : Int) = r4 by omega] at KD
  rw [show ((1 + xq.length : Nat) : Int) = r1 by omega, show ((1 + xq.length + 1 : Nat) : Int) = r1 + 1 by omega, show ((1 + (xq.length + 2 + xi.length) + yq.length : Nat) : Int) = r3 by omega, show ((1 + (xq.length + 2 + xi.length) + yq.length + 1 : Nat) : Int) = r3 + 1 by omega, show ((1 + (xq.length + 2 + xi.length + (yq.length + 2 + yi.length)) : Nat) : Int) = r4 by omega]
  have x1 : 0 ≤ r1 := by omega
  have x2 : r1 ≤ 4000 := by omega
  have x3 : 0 ≤ r2 := by omega
  have x4 : r2 ≤ 4000 := by omega
  have x5 : 0 ≤ r3 := by omega
  have x6 : r3 ≤ 4000 := by omega
  clear hr1 hr2 hr3 hr4 n1 n2 n3 n4 ps h
  go_enter Try.func40, Try.ntmps40
  go_wp2_with fail
  refine wp_loop_rounds 3 ?_
  rw [rounds_succ]
  go_wp2_with fail
  refine (unhide KA).mono ?_
  rintro e w1 ⟨rfl, o1, t1⟩
  have P1 := (unhide P0).mq0 o1 t1
  have P2 := P1.s1x (.int .i64 r1)
  have P3 := P2.s2x (.int .i64 (r1 + 1))
  have f1 := P1.row.fz 1
  have f2 := P2.row.fz 2
  clear c0 c1 c2 c3 c4 c5 c6 c7
  have d1 := P1.row.c1
  have d2 := P2.row.c2
  have d3 := P3.row.c3
  have HP3 := hide P3
  clear o1 t1 P1 P2 P3 KA P0
  go_wp2_with fail
  refine (unhide KB _ (unhide HP3).oi0).mono ?_
  rintro e w2 ⟨rfl, o2, t2⟩
  have P4 := (unhide HP3).mi0 o2 t2
  clear f1 f2 d1 d2 d3
  have c4 := P4.row.c4
  have HP4 := hide P4
  clear o2 t2 P4 HP3 KB
  go_wp2_with fail
  rw [rounds_succ]
  go_wp2_with fail
  refine (unhide KC _ (unhide HP4).oq1).mono ?_
  rintro e w3 ⟨rfl, o3, t3⟩
  have P5 := (unhide HP4).mq1 o3 t3
  have P6 := P5.s5x (.int .i64 r3)
  have P7 := P6.s6x (.int .i64 (r3 + 1))
  have f5 := P5.row.fz 5
  have f6 := P6.row.fz 6
  have d5 := P5.row.c5
  have d6 := P6.row.c6
  have d7 := P7.row.c7
  have HP7 := hide P7
  clear c4 o3 t3 P5 P6 P7 KC HP4
  go_wp2_with fail
  refine (unhide KD _ (unhide HP7).oi1).mono ?_
  rintro e w4 ⟨rfl, o4, t4⟩
  have P8 := hide ((unhide HP7).mi1 o4 t4)
  clear f5 f6 d5 d6 d7 o4 t4 KD HP7
  go_wp2_with fail
  rw [rounds_succ]
  go_wp2_with fail
  go_ret
  exact ⟨rfl, PS.two (z := ⟨⟨_, _, _, _⟩, ⟨_, _, _, _⟩⟩) (unhide P8), (unhide P8).to⟩
end Go.Proofs.Ythonnlifgdnacaa
namespace Go.Proofs.Ythonnlifgdnacaa
open Go.RowKit
set_option maxHeartbeats 4000000
set_option maxRecDepth 20000
set_option linter.unusedVariables false
theorem held42 (base g : Nat) (z : Tw) (w : World) (h : TwO base g (markT z 1) w) (hn : few8 z) :
    Calls Try.prog 42 #[.slice (some ⟨g, 0, none⟩) 2 2, .int .i64 1] w fun e w' => e = .returned (.int .i64 ((1 + lenT z : Nat) : Int)) ∧ Below w.heap.size w w' := by
  obtain ⟨lo0, hi0, lo1, hi1, q0, i0, q1, i1, ps⟩ := ps_of h
  obtain ⟨⟨xq, xs, xe, xi⟩, ⟨yq, ys, ye, yi⟩⟩ := z
  obtain ⟨n1, n2, n3, n4⟩ := hn
  dsimp only [markT, mkPe, lenT, lenP] at *
  have RW := hide (fun W (h : Below w.heap.size w W) => (ps.row.below h).cells)
  have KA := hide (fun W (h : Below w.heap.size w W) => held66 q0 1 xq.length W (ps.oq0.below h).strs (by omega) (by omega))
  have KB := hide (fun W (h : Below w.heap.size w W) => held66 i0 (1 + xq.length + 2) xi.length W (ps.oi0.below h).strs (by omega) (by omega))
  have KC := hide (fun W (h : Below w.heap.size w W) => held66 q1 (1 + (xq.length + 2 + xi.length)) yq.length W (ps.oq1.below h).strs (by omega) (by omega))
  have KD := hide (fun W (h : Below w.heap.size w W) => held66 i1 (1 + (xq.length + 2 + xi.length) + yq.length + 2) yi.length W (ps.oi1.below h).strs (by omega) (by omega))
  obtain ⟨A0, C0, rfl, _⟩ := ps.oq0.cap
  obtain ⟨A1, C1, rfl, _⟩ := ps.oi0.cap
  obtain ⟨A2, C2, rfl, _⟩ := ps.oq1.cap
  obtain ⟨A3, C3, rfl, _⟩ := ps.oi1.cap
  obtain ⟨c0, c1, c2, c3, c4, c5, c6, c7⟩ := ps.row.cells
  obtain ⟨r1, hr1⟩ : ∃ r : Int, r = ((1 + xq.length : Nat) : Int) := ⟨_, rfl⟩
  obtain ⟨r2, hr2⟩ : ∃ r : Int, r = ((1 + (xq.length + 2 + xi.length) : Nat) : Int) := ⟨_, rfl⟩
  obtain ⟨r3, hr3⟩ : ∃ r : Int, r = ((1 + (xq.length + 2 + xi.length) + yq.length : Nat) : Int) := ⟨_, rfl⟩
  obtain ⟨r4, hr4⟩ : ∃ r : Int, r = ((1 + (xq.length + 2 + xi.length + (yq.length + 2 + yi.length)) : Nat) : Int) := ⟨_, rfl⟩
  rw [show ((1 : Nat) : Int) + (xq.length : Int) = r1 by omega] at KA
  rw [show ((1 + xq.length + 2 : Nat) : Int) = r1 + 1 + 1 by omega, show r1 + 1 + 1 + (xi.length : Int) = r2 by omega] at KB
  rw [show ((1 + (xq.length + 2 + xi.length) : Nat) : Int) = r2 by omega, show r2 + (yq.length : Int) = r3 by omega] at KC
  rw [show ((1 + (xq.length + 2 + xi.length) + yq.length + 2 : Nat) : Int) = r3 + 1 + 1 by omega, show r3 + 1 + 1 + (yi.length : Int) = r4 by omega] at KD
  rw [show ((1 + xq.length : Nat) : Int) = r1 by omega, show ((1 + xq.length + 1 : Nat) : Int) = r1 + 1 by omega, show ((1 + (xq.length + 2 + xi.length) + yq.length : Nat) : Int) = r3 by omega, show ((1 + (xq.length + 2 + xi.length) + yq.length + 1 : Nat) : Int) = r3 + 1 by omega] at RW
  rw [show ((1 + (xq.length + 2 + xi.length + (yq.length + 2 + yi.length)) : Nat) : Int) = r4 by omega]
  have x1 : 0 ≤ r1 := by omega
  have x2 : r1 ≤ 4000 := by omega
  have x3 : 0 ≤ r2 := by omega
  have x4 : r2 ≤ 4000 := by omega
  have x5 : 0 ≤ r3 := by omega
  have x6 : r3 ≤ 4000 := by omega
  have x7 : 0 ≤ r4 := by omega
  simp only [marksK_len] at c0 c1 c2 c3 c4 c5 c6 c7 RW KA KB KC KD
  clear hr1 hr2 hr3 hr4 n1 n2 n3 n4 ps h c0 c1 c2 c3 c4 c5 c6 c7
  obtain ⟨c0, c1, c2, c3, c4, c5, c6, c7⟩ := unhide RW w (Below.refl _ _)
  go_enter Try.func42, Try.ntmps42
  go_wp2_with fail
  refine wp_loop_rounds 3 ?_
  rw [rounds_succ]
  go_wp2_with fail
  refine (unhide KA _ (Below.refl _ _)).mono ?_
  rintro e w1 ⟨rfl, b1⟩
  have B1 := hide b1
  clear c0 c1 c2 c3 c4 c5 c6 c7 KA b1
  obtain ⟨c0, c1, c2, c3, c4, c5, c6, c7⟩ := unhide RW w1 (unhide B1)
  go_wp2_with fail
  refine (unhide KB _ (unhide B1)).mono ?_
  rintro e w2 ⟨rfl, b2⟩
  have B2 := hide (bl_st b2 (unhide B1))
  clear c0 c1 c2 c3 c4 c5 c6 c7 KB b2 B1
  obtain ⟨c0, c1, c2, c3, c4, c5, c6, c7⟩ := unhide RW w2 (unhide B2)
  go_wp2_with fail
  rw [rounds_succ]
  go_wp2_with fail
  refine (unhide KC _ (unhide B2)).mono ?_
  rintro e w3 ⟨rfl, b3⟩
  have B3 := hide (bl_st b3 (unhide B2))
  clear c0 c1 c2 c3 c4 c5 c6 c7 KC b3 B2
  obtain ⟨c0, c1, c2, c3, c4, c5, c6, c7⟩ := unhide RW w3 (unhide B3)
  go_wp2_with fail
  refine (unhide KD _ (unhide B3)).mono ?_
  rintro e w4 ⟨rfl, b4⟩
  have B4 := hide (bl_st b4 (unhide B3))
  clear c0 c1 c2 c3 c4 c5 c6 c7 KD b4 B3
  go_wp2_with fail
  rw [rounds_succ]
  go_wp2_with fail
  go_ret
  exact ⟨rfl, unhide B4⟩
theorem eq36 (base g : Nat) (z : Tw) (v : Value) (w : World) (h : TwO base g z w) (hv : twV w v z) (fx : peFew z.x) (fy : peFew z.y) :
    Calls Try.prog 36 #[.slice (some ⟨g, 0, none⟩) 2 2, v] w fun e w' => e = .returned (.bool true) ∧ Below w.heap.size w w' := by
  obtain ⟨Q0, I0, Q1, I1, lo0, hi0, lo1, hi1, hr, hx, hy, _⟩ := h
  obtain ⟨g9, c9, p4, p5, p6, p7, rest9, rfl, hc9, hr9, hx9, _, hy9, _⟩ := hv
  have hx := hx.pe
  have hy := hy.pe
  obtain ⟨A0, r0, C0, r1, e0⟩ := hx.slices
  obtain ⟨A1, r2, C1, r3, e1⟩ := hy.slices
  obtain ⟨A2, r4, C2, r5, e2⟩ := hx9.slices
  obtain ⟨A3, r6, C3, r7, e3⟩ := hy9.slices
  obtain ⟨rfl, rfl⟩ := peA_inj e0
  obtain ⟨rfl, rfl⟩ := peA_inj e1
  obtain ⟨rfl, rfl⟩ := peA_inj e2
  obtain ⟨rfl, rfl⟩ := peA_inj e3
  have K0 := hide (fun W (h : Below w.heap.size w W) => eq28 _ _ _ W (hx.below h) (hx9.below h) fx)
  have K1 := hide (fun W (h : Below w.heap.size w W) => eq28 _ _ _ W (hy.below h) (hy9.below h) fy)
  have R8 := hide (fun W (h : Below w.heap.size w W) => (hr.below h).cells)
  have R9 := hide (fun W (h : Below w.heap.size w W) => (hr9.below h).cells)
  clear hr hx hy hr9 hx9 hy9 e0 e1 e2 e3 fx fy
  obtain ⟨X, Y⟩ := z
  dsimp only at *
  go_enter Try.func36, Try.ntmps36
  go_wp2_with fail
  refine wp_loop_rounds 3 ?_
  rw [rounds_succ]
  go_wp2_with fail
  refine wp_region_held (S := fun W' => Below w.heap.size w W') (by kernel_rfl) ?_
  have hS0 : Below w.heap.size w { w with drawn := w.drawn + 1 } := below_drewN (Below.refl _ _) 1
  obtain ⟨y0, hy0⟩ : ∃ x, x = ({ w with drawn := w.drawn + 1 } : World) := ⟨_, rfl⟩
  rw [← hy0] at hS0 ⊢
  clear hy0
  refine wpAnyH_take (i := 0) (oi := { dst := some 17, op := Op.move (Operand.tmp 0), type := 25, pos := "exact.go:1295", after := #[], guard := none }) (v := ?_) rfl (by kernel_rfl) (by kernel_rfl) (by kernel_rfl) (fun _ _ _ h => h) (Or.inl ⟨by rfl, ?_⟩) hS0 ?_
  rotate_left
  · intro W hSw
    go_simp
    try with_reducible rfl
  simp only [Act.put, List.setIfInBounds_toArray, List.set_cons_zero, List.set_cons_succ]
  refine wpAnyH_take (i := 1) (oi := { dst := some 18, op := Op.move (Operand.tmp 5), type := 3, pos := "exact.go:1295", after := #[], guard := none }) (v := ?_) rfl (by kernel_rfl) (by kernel_rfl) (by kernel_rfl) (fun _ _ _ h => h) (Or.inl ⟨by rfl, ?_⟩) hS0 ?_
  rotate_left
  · intro W hSw
    go_simp
    try with_reducible rfl
  simp only [Act.put, List.setIfInBounds_toArray, List.set_cons_zero, List.set_cons_succ]
  refine wpAnyH_take (i := 2) (oi := { dst := some 19, op := Op.indexAddr 25 (Operand.tmp 17) (Operand.tmp 18), type := 0, pos := "exact.go:1295", after := #[{ on := 0, ground := Ground.data }, { on := 1, ground := Ground.data }], guard := none }) (v := ?_) rfl (by kernel_rfl) (by kernel_rfl) (by kernel_rfl) (fun _ _ _ h => h) (Or.inl ⟨by rfl, ?_⟩) hS0 ?_
  rotate_left
  · intro W hSw
    go_simp
    try with_reducible rfl
  simp only [Act.put, List.setIfInBounds_toArray, List.set_cons_zero, List.set_cons_succ]
  refine wpAnyH_take (i := 3) (oi := { dst := some 20, op := Op.load 33 (Operand.tmp 19), type := 33, pos := "exact.go:1295", after := #[{ on := 2, ground := Ground.data }], guard := none }) (v := ?_) rfl (by kernel_rfl) (by kernel_rfl) (by kernel_rfl) (fun _ _ _ h => h) (Or.inl ⟨by rfl, ?_⟩) hS0 ?_
  rotate_left
  · intro W hSw
    obtain ⟨c0, c1, c2, c3, c4, c5, c6, c7⟩ := unhide R8 W (bl_st hSw (Below.refl _ _))
    obtain ⟨d0, d1, d2, d3, d4, d5, d6, d7⟩ := unhide R9 W (bl_st hSw (Below.refl _ _))
    go_simp
    try with_reducible rfl
  simp only [Act.put, List.setIfInBounds_toArray, List.set_cons_zero, List.set_cons_succ]
  refine wpAnyH_take (i := 4) (oi := { dst := some 21, op := Op.move (Operand.tmp 1), type := 25, pos := "exact.go:1295", after := #[], guard := none }) (v := ?_) rfl (by kernel_rfl) (by kernel_rfl) (by kernel_rfl) (fun _ _ _ h => h) (Or.inl ⟨by rfl, ?_⟩) hS0 ?_
  rotate_left
  · intro W hSw
    go_simp
    try with_reducible rfl
  simp only [Act.put, List.setIfInBounds_toArray, List.set_cons_zero, List.set_cons_succ]
  refine wpAnyH_take (i := 5) (oi := { dst := some 22, op := Op.move (Operand.tmp 5), type := 3, pos := "exact.go:1295", after := #[], guard := none }) (v := ?_) rfl (by kernel_rfl) (by kernel_rfl) (by kernel_rfl) (fun _ _ _ h => h) (Or.inl ⟨by rfl, ?_⟩) hS0 ?_
  rotate_left
  · intro W hSw
    go_simp
    try with_reducible rfl
  simp only [Act.put, List.setIfInBounds_toArray, List.set_cons_zero, List.set_cons_succ]
  refine wpAnyH_take (i := 6) (oi := { dst := some 23, op := Op.indexAddr 25 (Operand.tmp 21) (Operand.tmp 22), type := 0, pos := "exact.go:1295", after := #[{ on := 4, ground := Ground.data }, { on := 5, ground := Ground.data }], guard := none }) (v := ?_) rfl (by kernel_rfl) (by kernel_rfl) (by kernel_rfl) (fun _ _ _ h => h) (Or.inl ⟨by rfl, ?_⟩) hS0 ?_
  rotate_left
  · intro W hSw
    go_simp
    try with_reducible rfl
  simp only [Act.put, List.setIfInBounds_toArray, List.set_cons_zero, List.set_cons_succ]
  refine wpAnyH_take (i := 7) (oi := { dst := some 24, op := Op.load 33 (Operand.tmp 23), type := 33, pos := "exact.go:1295", after := #[{ on := 6, ground := Ground.data }], guard := none }) (v := ?_) rfl (by kernel_rfl) (by kernel_rfl) (by kernel_rfl) (fun _ _ _ h => h) (Or.inl ⟨by rfl, ?_⟩) hS0 ?_
  rotate_left
  · intro W hSw
    obtain ⟨c0, c1, c2, c3, c4, c5, c6, c7⟩ := unhide R8 W (bl_st hSw (Below.refl _ _))
    obtain ⟨d0, d1, d2, d3, d4, d5, d6, d7⟩ := unhide R9 W (bl_st hSw (Below.refl _ _))
    go_simp
    try with_reducible rfl
  simp only [Act.put, List.setIfInBounds_toArray, List.set_cons_zero, List.set_cons_succ]
  refine wpAnyH_one (i := 8) (by kernel_rfl) ?_
  refine wpOp_step (o := { dst := some 25, op := Op.call { callee := Callee.value (Operand.func 28), args := #[Operand.tmp 20, Operand.tmp 24], argTypes := #[33, 33] }, type := 4, pos := "exact.go:1295", after := #[{ on := 3, ground := Ground.data }, { on := 7, ground := Ground.data }], guard := none }) rfl fun K' hK => step_enterW (by rfl) 28 #[peA (.slice A0 X.q.length r0) X.s X.e (.slice C0 X.i.length r1), peA (.slice A2 X.q.length r4) X.s X.e (.slice C2 X.i.length r5)] (by go_simp) ((unhide K0 _ (bl_st hS0 (Below.refl _ _))).mono ?_)
  rintro e x0 ⟨rfl, b5⟩
  have s5 := bl_st b5 hS0
  clear b5

  refine ⟨_, rfl, hK _ _ ⟨s5, ?_⟩⟩
  simp only [Act.put, List.setIfInBounds_toArray, List.set_cons_zero, List.set_cons_succ]
  refine wpAnyH_take (i := 9) (oi := { dst := some 26, op := Op.unOp UnOp.not 4 (Operand.tmp 25), type := 4, pos := "exact.go:1295", after := #[{ on := 8, ground := Ground.data }], guard := none }) (v := ?_) rfl (by kernel_rfl) (by kernel_rfl) (by kernel_rfl) (fun _ _ _ h => h) (Or.inl ⟨by rfl, ?_⟩) s5 ?_
  rotate_left
  · intro W hSw
    go_simp
    try with_reducible rfl
  simp only [Act.put, List.setIfInBounds_toArray, List.set_cons_zero, List.set_cons_succ]
  refine wpAnyH_done (by kernel_rfl) ?_ _
  have HB1 := hide (bl_st s5 (Below.refl _ _))
  clear hS0 s5
  go_wp2_with fail
  rw [rounds_succ]
  go_wp2_with fail
  refine wp_region_held (S := fun W' => Below x0.heap.size x0 W') (by kernel_rfl) ?_
  have hS0 : Below x0.heap.size x0 { x0 with drawn := x0.drawn + 1 } := below_drewN (Below.refl _ _) 1
  obtain ⟨y1, hy1⟩ : ∃ x, x = ({ x0 with drawn := x0.drawn + 1 } : World) := ⟨_, rfl⟩
  rw [← hy1] at hS0 ⊢
  clear hy1
  refine wpAnyH_take (i := 0) (oi := { dst := some 17, op := Op.move (Operand.tmp 0), type := 25, pos := "exact.go:1295", after := #[], guard := none }) (v := ?_) rfl (by kernel_rfl) (by kernel_rfl) (by kernel_rfl) (fun _ _ _ h => h) (Or.inl ⟨by rfl, ?_⟩) hS0 ?_
  rotate_left
  · intro W hSw
    go_simp
    try with_reducible rfl
  simp only [Act.put, List.setIfInBounds_toArray, List.set_cons_zero, List.set_cons_succ]
  refine wpAnyH_take (i := 1) (oi := { dst := some 18, op := Op.move (Operand.tmp 5), type := 3, pos := "exact.go:1295", after := #[], guard := none }) (v := ?_) rfl (by kernel_rfl) (by kernel_rfl) (by kernel_rfl) (fun _ _ _ h => h) (Or.inl ⟨by rfl, ?_⟩) hS0 ?_
  rotate_left
  · intro W hSw
    go_simp
    try with_reducible rfl
  simp only [Act.put, List.setIfInBounds_toArray, List.set_cons_zero, List.set_cons_succ]
  refine wpAnyH_take (i := 2) (oi := { dst := some 19, op := Op.indexAddr 25 (Operand.tmp 17) (Operand.tmp 18), type := 0, pos := "exact.go:1295", after := #[{ on := 0, ground := Ground.data }, { on := 1, ground := Ground.data }], guard := none }) (v := ?_) rfl (by kernel_rfl) (by kernel_rfl) (by kernel_rfl) (fun _ _ _ h => h) (Or.inl ⟨by rfl, ?_⟩) hS0 ?_
  rotate_left
  · intro W hSw
    go_simp
    try with_reducible rfl
  simp only [Act.put, List.setIfInBounds_toArray, List.set_cons_zero, List.set_cons_succ]
  refine wpAnyH_take (i := 3) (oi := { dst := some 20, op := Op.load 33 (Operand.tmp 19), type := 33, pos := "exact.go:1295", after := #[{ on := 2, ground := Ground.data }], guard := none }) (v := ?_) rfl (by kernel_rfl) (by kernel_rfl) (by kernel_rfl) (fun _ _ _ h => h) (Or.inl ⟨by rfl, ?_⟩) hS0 ?_
  rotate_left
  · intro W hSw
    obtain ⟨c0, c1, c2, c3, c4, c5, c6, c7⟩ := unhide R8 W (bl_st hSw (unhide HB1))
    obtain ⟨d0, d1, d2, d3, d4, d5, d6, d7⟩ := unhide R9 W (bl_st hSw (unhide HB1))
    go_simp
    try with_reducible rfl
  simp only [Act.put, List.setIfInBounds_toArray, List.set_cons_zero, List.set_cons_succ]
  refine wpAnyH_take (i := 4) (oi := { dst := some 21, op := Op.move (Operand.tmp 1), type := 25, pos := "exact.go:1295", after := #[], guard := none }) (v := ?_) rfl (by kernel_rfl) (by kernel_rfl) (by kernel_rfl) (fun _ _ _ h => h) (Or.inl ⟨by rfl, ?_⟩) hS0 ?_
  rotate_left
  · intro W hSw
    go_simp
    try with_reducible rfl
  simp only [Act.put, List.setIfInBounds_toArray, List.set_cons_zero, List.set_cons_succ]
  refine wpAnyH_take (i := 5) (oi := { dst := some 22, op := Op.move (Operand.tmp 5), type := 3, pos := "exact.go:1295", after := #[], guard := none }) (v := ?_) rfl (by kernel_rfl) (by kernel_rfl) (by kernel_rfl) (fun _ _ _ h => h) (Or.inl ⟨by rfl, ?_⟩) hS0 ?_
  rotate_left
  · intro W hSw
    go_simp
    try with_reducible rfl
  simp only [Act.put, List.setIfInBounds_toArray, List.set_cons_zero, List.set_cons_succ]
  refine wpAnyH_take (i := 6) (oi := { dst := some 23, op := Op.indexAddr 25 (Operand.tmp 21) (Operand.tmp 22), type := 0, pos := "exact.go:1295", after := #[{ on := 4, ground := Ground.data }, { on := 5, ground := Ground.data }], guard := none }) (v := ?_) rfl (by kernel_rfl) (by kernel_rfl) (by kernel_rfl) (fun _ _ _ h => h) (Or.inl ⟨by rfl, ?_⟩) hS0 ?_
  rotate_left
  · intro W hSw
    go_simp
    try with_reducible rfl
  simp only [Act.put, List.setIfInBounds_toArray, List.set_cons_zero, List.set_cons_succ]
  refine wpAnyH_take (i := 7) (oi := { dst := some 24, op := Op.load 33 (Operand.tmp 23), type := 33, pos := "exact.go:1295", after := #[{ on := 6, ground := Ground.data }], guard := none }) (v := ?_) rfl (by kernel_rfl) (by kernel_rfl) (by kernel_rfl) (fun _ _ _ h => h) (Or.inl ⟨by rfl, ?_⟩) hS0 ?_
  rotate_left
  · intro W hSw
    obtain ⟨c0, c1, c2, c3, c4, c5, c6, c7⟩ := unhide R8 W (bl_st hSw (unhide HB1))
    obtain ⟨d0, d1, d2, d3, d4, d5, d6, d7⟩ := unhide R9 W (bl_st hSw (unhide HB1))
    go_simp
    try with_reducible rfl
  simp only [Act.put, List.setIfInBounds_toArray, List.set_cons_zero, List.set_cons_succ]
  refine wpAnyH_one (i := 8) (by kernel_rfl) ?_
  refine wpOp_step (o := { dst := some 25, op := Op.call { callee := Callee.value (Operand.func 28), args := #[Operand.tmp 20, Operand.tmp 24], argTypes := #[33, 33] }, type := 4, pos := "exact.go:1295", after := #[{ on := 3, ground := Ground.data }, { on := 7, ground := Ground.data }], guard := none }) rfl fun K' hK => step_enterW (by rfl) 28 #[peA (.slice A1 Y.q.length r2) Y.s Y.e (.slice C1 Y.i.length r3), peA (.slice A3 Y.q.length r6) Y.s Y.e (.slice C3 Y.i.length r7)] (by go_simp) ((unhide K1 _ (bl_st hS0 (unhide HB1))).mono ?_)
  rintro e x1 ⟨rfl, b5⟩
  have s5 := bl_st b5 hS0
  clear b5

  refine ⟨_, rfl, hK _ _ ⟨s5, ?_⟩⟩
  simp only [Act.put, List.setIfInBounds_toArray, List.set_cons_zero, List.set_cons_succ]
  refine wpAnyH_take (i := 9) (oi := { dst := some 26, op := Op.unOp UnOp.not 4 (Operand.tmp 25), type := 4, pos := "exact.go:1295", after := #[{ on := 8, ground := Ground.data }], guard := none }) (v := ?_) rfl (by kernel_rfl) (by kernel_rfl) (by kernel_rfl) (fun _ _ _ h => h) (Or.inl ⟨by rfl, ?_⟩) s5 ?_
  rotate_left
  · intro W hSw
    go_simp
    try with_reducible rfl
  simp only [Act.put, List.setIfInBounds_toArray, List.set_cons_zero, List.set_cons_succ]
  refine wpAnyH_done (by kernel_rfl) ?_ _
  have HB2 := hide (bl_st s5 (unhide HB1))
  clear hS0 s5
  go_wp2_with fail
  rw [rounds_succ]
  go_wp2_with fail
  go_ret
  exact ⟨rfl, unhide HB2⟩
theorem eq36_nil (A : Option Addr) (c : Nat) (w : World) : Calls Try.prog 36 #[.slice none 0 0, .slice A 0 c] w fun e w' => e = .returned (.bool true) ∧ Below w.heap.size w w' := by
  go_enter Try.func36, Try.ntmps36
  go_wp2
  refine wp_loop_rounds 1 ?_
  rw [rounds_succ]
  go_wp2
  go_ret
  exact ⟨rfl, Below.refl _ _⟩
theorem mark40_nil (w : World) : Calls Try.prog 40 #[.slice none 0 0, .int .i64 1] w fun e w' => e = .returned (.int .i64 1) ∧ w' = w := by
  go_enter Try.func40, Try.ntmps40
  go_wp2
  refine wp_loop_rounds 1 ?_
  rw [rounds_succ]
  go_wp2
  go_ret
  exact ⟨rfl, rfl⟩
theorem held42_nil (w : World) : Calls Try.prog 42 #[.slice none 0 0, .int .i64 1] w fun e w' => e = .returned (.int .i64 1) ∧ w' = w := by
  go_enter Try.func42, Try.ntmps42
  go_wp2
  refine wp_loop_rounds 1 ?_
  rw [rounds_succ]
  go_wp2
  go_ret
  exact ⟨rfl, rfl⟩
end Go.Proofs.Ythonnlifgdnacaa
namespace Go.Proofs.Ythonnlifgdnacaa
open Go.RowKit
set_option maxHeartbeats 4000000
set_option maxRecDepth 20000
set_option linter.unusedVariables false
/-- two peers, or none -/
def pO (W : World) (v : Value) (base g : Nat) : Option Tw → Prop
  | none => v = .slice none 0 0
  | some z => v = .slice (some ⟨g, 0, none⟩) 2 2 ∧ TwO base g z W
/-- how the specification's two peers read -/
def wV (W : World) (v : Value) : Option Tw → Prop
  | none => ∃ A c, v = .slice A 0 c
  | some z => twV W v z
def fewO : Option Tw → Prop
  | none => True
  | some z => few8 z
def lenO : Option Tw → Nat
  | none => 0
  | some z => lenT z
def mkO : Option Tw → Option Tw
  | none => none
  | some z => some (markT z 1)
theorem pO.below {W X : World} {v : Value} {base g : Nat} {o : Option Tw} (h : pO W v base g o) (hb : Below W.heap.size W X) : pO X v base g o := by
  cases o with
  | none => exact h
  | some z => exact ⟨h.1, h.2.below hb⟩
theorem pO.lone {W X : World} {v : Value} {base g q : Nat} {o : Option Tw} (h : pO W v base g o) (hl : Lone q W X) (hg : g ≠ q) (hq : q < base) : pO X v base g o := by
  cases o with
  | none => exact h
  | some z => exact ⟨h.1, h.2.lone hl hg hq⟩
theorem wV.below {W X : World} {v : Value} {o : Option Tw} (h : wV W v o) (hb : Below W.heap.size W X) : wV X v o := by
  cases o with
  | none => exact h
  | some z => exact twV.below h hb
theorem iO.lone {W X : World} {v : Value} {g q : Nat} {xs : List Int} (h : iO W v g xs) (hl : Lone q W X) (hg : g ≠ q) : iO X v g xs := by
  obtain h | ⟨e, h⟩ := h
  · exact .inl h
  · exact .inr ⟨e, (hl.block _ (Array.getElem?_eq_some_iff.1 h).1 hg).trans h⟩
theorem iO.touchT {W X : World} {v : Value} {g q base : Nat} {xs : List Int} (h : iO W v g xs) (hl : TouchT base q W X) (hg : g ≠ q) (hb : g < base) : iO X v g xs := by
  obtain h | ⟨e, h⟩ := h
  · exact .inl h
  · exact .inr ⟨e, (hl.block _ (Array.getElem?_eq_some_iff.1 h).1 hg hb).trans h⟩
theorem TouchT.below {base g B : Nat} {x a b : World} (h : TouchT base g a b) (hx : Below B x a) (hg : B ≤ g) (hB : B ≤ base) (hs : B ≤ a.heap.size) : Below B x b :=
  ⟨h.os.trans hx.os, h.tape.trans hx.tape, h.output.trans hx.output, Nat.le_trans hx.size h.size, fun k hk => (h.block k (by omega) (by omega) (by omega)).trans (hx.block k hk)⟩
theorem few_8 {z : Tw} (h : few8 z) : peFew z.x ∧ peFew z.y := by
  obtain ⟨h1, h2, h3, h4⟩ := h
  exact ⟨⟨by omega, by omega⟩, ⟨by omega, by omega⟩⟩
theorem eqP {W : World} {lv lw : Value} {base g : Nat} {o : Option Tw} (h : pO W lv base g o) (hw : wV W lw o) (hf : fewO o) :
    Calls Try.prog 36 #[lv, lw] W fun e w' => e = .returned (.bool true) ∧ Below W.heap.size W w' := by
  cases o with
  | none => obtain rfl := h; obtain ⟨A, c, rfl⟩ := hw; exact eq36_nil A c W
  | some z => obtain ⟨rfl, h⟩ := h; exact eq36 base g z lw W h hw (few_8 hf).1 (few_8 hf).2
theorem markPP {W : World} {lv : Value} {base g : Nat} {o : Option Tw} (h : pO W lv base g o) (hf : fewO o) :
    Calls Try.prog 40 #[lv, .int .i64 1] W fun e w' => e = .returned (.int .i64 ((1 + lenO o : Nat) : Int)) ∧ pO w' lv base g (mkO o) ∧ TouchT base g W w' := by
  cases o with
  | none => obtain rfl := h; exact (mark40_nil W).mono fun e w' ⟨he, hw⟩ => ⟨he, rfl, by rw [hw]; exact TouchT.refl _ _ _⟩
  | some z => obtain ⟨rfl, h⟩ := h; exact (mark40 base g z W h hf).mono fun e w' ⟨he, h1, h2⟩ => ⟨he, ⟨rfl, h1⟩, h2⟩
theorem heldPP {W : World} {lv : Value} {base g : Nat} {o : Option Tw} (h : pO W lv base g (mkO o)) (hf : fewO o) :
    Calls Try.prog 42 #[lv, .int .i64 1] W fun e w' => e = .returned (.int .i64 ((1 + lenO o : Nat) : Int)) ∧ Below W.heap.size W w' := by
  cases o with
  | none => obtain rfl := h; exact (held42_nil W).mono fun e w' ⟨he, hw⟩ => ⟨he, by rw [hw]; exact Below.refl _ _⟩
  | some z => obtain ⟨rfl, h⟩ := h; exact held42 base g z W h hf
def oZ (al : List Ta) : Option Tw := if tkC al = 0 then some (runF al tw0) else none
def oX (al : List Ta) : List Int := if tkC al = 0 then codesF al tw0 else []
theorem few8_run (al : List Ta) : fewO (oZ al) := by
  unfold oZ
  split
  · have h := run_ok al
    have h1 := h.1
    have h2 := h.2
    rw [ok_parts] at h1 h2
    simp only [Bool.and_eq_true, decide_eq_true_eq] at h1 h2
    exact ⟨by have := h1.1.1.1.1; omega, by have := h1.1.1.2.1; omega, by have := h2.1.1.1.1; omega, by have := h2.1.1.2.1; omega⟩
  · trivial
theorem oX_len (al : List Ta) : (oX al).length ≤ 120 := by
  unfold oX
  split
  · next h => rw [codesF_len]; exact (tkC_zero h).1
  · exact Nat.zero_le _
theorem lenO_le {o : Option Tw} (h : fewO o) : lenO o ≤ 4004 := by
  cases o with
  | none => exact Nat.zero_le _
  | some z => obtain ⟨h1, h2, h3, h4⟩ := h; show lenT z ≤ 4004; unfold lenT lenP; omega
theorem tr_parts {w w' : World} {lv cv : Value} {al : List Ta} (h : trO w w' lv cv al) : ∃ g cb base, w.heap.size ≤ g ∧ w.heap.size ≤ cb ∧ g ≠ cb ∧ g < base ∧ cb < base ∧ pO w' lv base g (oZ al) ∧ iO w' cv cb (oX al) := by
  unfold oZ oX
  by_cases hc : tkC al = 0
  · obtain ⟨g, cb, base, rfl, rfl, h1, h2, h3, h4, hT, hC⟩ := h.1 hc
    rw [if_pos hc, if_pos hc]
    have hg : g < base := by obtain ⟨_, _, _, _, _, _, _, _, _, _, _, h, _⟩ := hT; exact h
    exact ⟨g, cb, base, h1, h2, h3, hg, h4, ⟨rfl, hT⟩, .inr ⟨by rw [codesF_len], hC⟩⟩
  · obtain ⟨rfl, rfl⟩ := h.2 hc
    rw [if_neg hc, if_neg hc]
    exact ⟨w.heap.size, w.heap.size + 1, w.heap.size + 2, by omega, by omega, by omega, by omega, by omega, rfl, .inl ⟨rfl, rfl⟩⟩
theorem tk_parts {W : World} {lv cv : Value} {al : List Ta} (h : tkO W lv cv al) : wV W lv (oZ al) ∧ intsV W cv (oX al) := by
  unfold oZ oX
  by_cases hc : tkC al = 0
  · rw [if_pos hc, if_pos hc]
    exact h.1 hc
  · rw [if_neg hc, if_neg hc]
    obtain ⟨⟨A, c, rfl⟩, A', c', rfl⟩ := h.2 hc
    exact ⟨⟨A, c, rfl⟩, A', c', rfl, fun h => absurd h (Nat.lt_irrefl _)⟩
end Go.Proofs.Ythonnlifgdnacaa
namespace Go.Proofs.Ythonnlifgdnacaa
open Go.ChangeShapes Go.WideShapes Go.ChangeAt Go.RowKit
set_option maxRecDepth 20000
theorem cell_ltT {W : World} {b i : Nat} {v : Value} (h : W.cell? ⟨b, i, none⟩ = some v) : b < W.heap.size := by
  unfold World.cell? at h
  rw [show (⟨b, i, none⟩ : Addr).block = b from rfl] at h
  rcases Nat.lt_or_ge b W.heap.size with hl | hl
  · exact hl
  · rw [Array.getElem?_eq_none hl] at h; cases h
theorem hc91 : Try.prog.cellsOf 91 = 5 := by kernel_rfl
theorem ta_of {H : Type} {enc : TypeId × Value → H} {W : World} {base fuel : Nat} {sp : Nat → Bool} {held : Bool} {cs : List Value} {y : DataW H × List MemPlace}
    (hl : cs.length = 5) (h : DataW.trod enc Try.prog W base sp held fuel 91 cs = some y) : ∃ a : Ta, cs = [.int .i64 a.k, .int .i64 a.w, .string a.t, .bool a.la, .bool a.lb] ∧ a.t.size ≤ maxLen := by
  match cs, hl with
  | [x0, x1, x2, x3, x4], _ =>
    obtain ⟨ys, m, _, hx, _, hl, hf⟩ := Go.DataW.trod_struct Try.underlying91 h
    match ys, hl with
    | [y0, y1, y2, y3, y4], _ =>
      have h0 := hf 0 _ rfl
      have h1 := hf 1 _ rfl
      have h2 := hf 2 _ rfl
      have h3 := hf 3 _ rfl
      have h4 := hf 4 _ rfl
      simp [hc3, hc4, hc9b] at h0 h1 h2 h3 h4
      obtain ⟨k, e0, _, _⟩ := Go.DataW.trod_int Try.underlying3 h0
      obtain ⟨w, e1, _, _⟩ := Go.DataW.trod_int Try.underlying3 h1
      obtain ⟨t, e2, _, ht⟩ := Go.DataW.trod_string Try.underlying9 h2
      obtain ⟨la, e3, _⟩ := Go.DataW.trod_bool Try.underlying4 h3
      obtain ⟨lb, e4, _⟩ := Go.DataW.trod_bool Try.underlying4 h4
      simp at e0 e1 e2 e3 e4
      subst e0 e1 e2 e3 e4
      exact ⟨⟨k, w, t, la, lb⟩, rfl, ht⟩
theorem open_acts {H : Type} {enc : TypeId × Value → H} {W : World} {base : Nat} {sp : Nat → Bool} {held : Bool} {rc : Reach} {b0 : Nat} {v : Value} {x : DataW H} {ps : List MemPlace}
    (hval : Value.okWide Try.prog W rc b0 59 v) (h : DataW.Trod enc Try.prog W base sp held 59 v x ps) :
    ∃ qs : List Ta, actsV W v qs ∧ qs.length ≤ maxLen ∧ ∀ a ∈ qs, a.t.size ≤ maxLen := by
  obtain ⟨A, n, c, rfl⟩ := okWide_slice Try.underlying59 hval
  obtain ⟨fuel, hy⟩ := h
  have hy' : DataW.trod enc Try.prog W base sp held fuel 59 [.slice A n c] = some (x, ps) := hy
  rcases Go.Deep.open_slice Try.underlying59 hy' with ⟨e, _⟩ | ⟨a, len, cap, m, k, D, Pl, e, hb, hl, hm, hmm, _, hx⟩
  · simp only [List.cons.injEq, and_true, Value.slice.injEq] at e
    obtain ⟨rfl, rfl, rfl⟩ := e
    exact ⟨[], ⟨none, 0, rfl, fun h => by simp at h⟩, Nat.zero_le _, fun t ht => by cases ht⟩
  · simp only [List.cons.injEq, and_true, Value.slice.injEq] at e
    obtain ⟨rfl, rfl, rfl⟩ := e
    have hlm : n ≤ m := by rw [hmm]; split <;> omega
    have each : ∀ i, i < n → ∃ p : Ta, (W.cell? (a.add (i * 5)) = some (.int .i64 p.k) ∧ W.cell? (a.add (i * 5 + 1)) = some (.int .i64 p.w) ∧ W.cell? (a.add (i * 5 + 2)) = some (.string p.t) ∧ W.cell? (a.add (i * 5 + 3)) = some (.bool p.la) ∧ W.cell? (a.add (i * 5 + 4)) = some (.bool p.lb)) ∧ p.t.size ≤ maxLen := by
      intro i hi
      obtain ⟨cs', h1, h2⟩ := hx i (by omega)
      rw [hc91] at h1
      obtain ⟨_, hlen, hcell⟩ := World.cells?_some h1
      obtain ⟨p, rfl, hr⟩ := ta_of hlen h2
      have e0 := hcell 0 (by omega)
      have e1 := hcell 1 (by omega)
      have e2 := hcell 2 (by omega)
      have e3 := hcell 3 (by omega)
      have e4 := hcell 4 (by omega)
      rw [Go.Deep.add_add] at e0 e1 e2 e3 e4
      exact ⟨p, ⟨by simpa using e0, by simpa using e1, by simpa using e2, by simpa using e3, by simpa using e4⟩, hr⟩
    have hin : Inhabited Ta := ⟨ta0⟩
    obtain ⟨q, hq⟩ := Go.Deep.choose_lt each
    refine ⟨(List.range n).map q, ⟨some a, c, by simp, fun h0 => ?_⟩, by simp; omega, fun p hp => ?_⟩
    · have h0' : 0 < n := by simpa using h0
      obtain ⟨b, off, spot⟩ := a
      have hspot : spot = none := by simpa [Addr.add] using World.cell?_spot (hq 0 h0').1.1
      subst hspot
      have hc0 := (hq 0 h0').1.1
      rw [Addr.add_lit] at hc0
      refine ⟨b, off, rfl, cell_ltT hc0, fun i hi => ?_⟩
      have hi' : i < n := by simpa using hi
      obtain ⟨⟨g0, g1, g2, g3, g4⟩, _⟩ := hq i hi'
      rw [Addr.add_lit] at g0 g1 g2 g3 g4
      rw [List.getD_eq_getElem?_getD, List.getElem?_map, List.getElem?_range hi']
      exact ⟨g0, g1, g2, g3, g4⟩
    · obtain ⟨i, hi, rfl⟩ := List.mem_map.1 hp
      exact (hq i (by have := List.mem_range.1 hi; omega)).2
end Go.Proofs.Ythonnlifgdnacaa
namespace Go.Proofs.Ythonnlifgdnacaa
open Go.RowKit
set_option maxHeartbeats 4000000
set_option maxRecDepth 20000
set_option linter.unusedVariables false
theorem law_run (w : World) (v : Value) (al : List Ta) (hv : actsV w v al) (hl : al.length ≤ maxLen) (ht : ∀ a ∈ al, a.t.size ≤ maxLen) :
    Calls Try.prog 10 #[v] w fun e w' => e = .returned (.bool true) ∧ Below w.heap.size w w' := by
  have KZ := hide (sz34 v al w hv hl ht)
  have KR := hide (fun W u (h : actsV W u al) => run13 u al W h hl ht)
  have KI := hide (fun W u (h : actsV W u al) => run12 u al W h hl ht)
  have HV := hide hv
  obtain ⟨A, cap, rfl⟩ := hv.slice
  clear ht hl hv
  go_enter Try.func10, Try.ntmps10
  go_wp2_with fail
  refine (unhide KZ).mono ?_
  rintro e w1 ⟨z, rfl, hz, b1⟩
  rcases hz with hz | ⟨hz, hn, _⟩
  · have B1 := hide b1
    clear b1 KZ
    go_wp2
    go_ret
    exact ⟨rfl, unhide B1⟩
  have B1 := hide b1
  have HV1 := hide ((unhide HV).below b1)
  have HN : Hid (al.length ≤ 1048576) := hide hn
  have KT := hide (fun W (h : actsV W (.slice A al.length cap) al) => to35 _ al W h (by omega))
  have KE := hide (fun W (u : Value) (u' : Value) (h : actsV W u al) (h' : actsV W u' al) => eq38 u u' al W h h' (by omega))
  have KM := hide (fun W g (h : nC W g (al.length * 5)) => mark39 g al.length W h hn)
  have FW := hide (few8_run al)
  have XL := hide (oX_len al)
  have KP := hide (fun W lv lw base g (h : pO W lv base g (oZ al)) (hw : wV W lw (oZ al)) => eqP h hw (few8_run al))
  have KQ := hide (fun W a b (h : intsV W a (oX al)) (h' : intsV W b (oX al)) => eq37 a b (oX al) W h h' (by have := oX_len al; omega))
  have KMP := hide (fun W lv base g (h : pO W lv base g (oZ al)) => markPP h (few8_run al))
  have KHP := hide (fun W lv base g (h : pO W lv base g (mkO (oZ al))) => heldPP h (few8_run al))
  have KTK := hide (fun W lv cv (h : tkO W lv cv al) => tk_parts h)
  have KTR := hide (fun W X lv cv (h : trO W X lv cv al) => tr_parts h)
  have HLE : Hid (lenO (oZ al) ≤ 4004) := hide (lenO_le (few8_run al))
  have KMI := hide (fun W cv cb (h : iO W cv cb (oX al)) => mark41 cb cv (oX al) (1 + lenO (oZ al)) W h (by have := oX_len al; omega) (by have := lenO_le (few8_run al); omega))
  have KHI := hide (fun W cv (h : intsV W cv (marksI (1 + lenO (oZ al)) (oX al).length)) => held43 cv (1 + lenO (oZ al)) (oX al).length W h (by have := oX_len al; omega) (by have := lenO_le (few8_run al); omega))
  have m0 : (0 : Int) ≤ ((1 + lenO (oZ al) : Nat) : Int) := by omega
  have m1 : ((1 + lenO (oZ al) : Nat) : Int) ≤ 4005 := by have := unhide HLE; omega
  have m2 : (0 : Int) ≤ ((oX al).length : Int) := by omega
  have m3 : ((oX al).length : Int) ≤ 120 := by have := unhide XL; omega
  generalize hK : ((1 + lenO (oZ al) : Nat) : Int) = k1 at *
  have k5 : (0 : Int) ≤ 1 + 5 * (al.length : Int) := by omega
  have k6 : 1 + 5 * (al.length : Int) ≤ 5242881 := by omega
  generalize hK5 : 1 + 5 * (al.length : Int) = k39 at *
  generalize hMK : marksI (1 + lenO (oZ al)) (oX al).length = mI at *
  generalize hnX : ((oX al).length : Int) = nX at *
  generalize hZ : oZ al = oz at *
  generalize hX : oX al = ox at *
  generalize tkC al = tk at *
  clear hK hK5 hMK hnX hZ hX hn b1 KZ FW XL HLE
  go_wp2_with fail
  refine (unhide KT w1 (unhide HV1)).mono ?_
  rintro e w2 ⟨rfl, hT2, b2⟩
  have HV2 := hide ((unhide HV1).below b2)
  have B2 := hide (bl_st b2 (unhide B1))
  have A2 := hide (tO_acts (c := al.length) hT2)
  clear hT2 b2 HV1 B1
  go_wp2_with fail
  refine (unhide KR w2 _ (unhide A2)).mono ?_
  rintro e w3 ⟨lw, cw, rfl, ho, b3⟩
  have TK := hide (unhide KTK _ _ _ ho)
  have HV3 := hide ((unhide HV2).below b3)
  have B3 := hide (bl_st b3 (unhide B2))
  clear ho b3 HV2 B2 A2
  go_wp2_with fail
  refine (unhide KT w3 (unhide HV3)).mono ?_
  rintro e w4 ⟨rfl, hT4, b4⟩
  obtain ⟨gx, hgx⟩ : ∃ g, g = w3.heap.size := ⟨_, rfl⟩
  rw [← hgx] at hT4 ⊢
  have HT4 := hide hT4
  have C4 := hide b4
  have HGX := hide hgx
  have A4 := hide (tO_acts (c := al.length) hT4)
  clear hT4 b4 hgx
  go_wp2_with fail
  refine (unhide KI w4 _ (unhide A4)).mono ?_
  rintro e w5 ⟨lv, cv, rfl, ho, b5⟩
  obtain ⟨g, cb, base, g1, g2, g3, g4, g5, hp, hi⟩ := unhide KTR _ _ _ _ ho
  have NUM : Hid (gx < g ∧ gx < cb ∧ g ≠ cb ∧ g < base ∧ cb < base) := hide (by have := (Array.getElem?_eq_some_iff.1 (unhide HT4)).1; omega)
  have HP5 := hide hp
  have HI5 := hide hi
  have HT5 := hide ((b5.block _ (Array.getElem?_eq_some_iff.1 (unhide HT4)).1).trans (unhide HT4))
  have C5 := hide (bl_st b5 (unhide C4))
  clear ho hp hi g1 g2 g3 g4 g5 b5 C4 A4 HT4
  go_wp2_with fail
  refine (unhide KP w5 lv lw base g (unhide HP5) ((unhide TK).1.below (unhide C5))).mono ?_
  rintro e w6 ⟨rfl, b6⟩
  have HP6 := hide ((unhide HP5).below b6)
  have HI6 := hide ((unhide HI5).below b6)
  have C6 := hide (bl_st b6 (unhide C5))
  have HT6 := hide ((b6.block _ (Array.getElem?_eq_some_iff.1 (unhide HT5)).1).trans (unhide HT5))
  clear b6 HP5 HI5 C5 HT5
  go_wp2_with fail
  refine (unhide KQ w6 cv cw (unhide HI6).ints ((unhide TK).2.below (unhide C6))).mono ?_
  rintro e w7 ⟨rfl, b7⟩
  have HP7 := hide ((unhide HP6).below b7)
  have HI7 := hide ((unhide HI6).below b7)
  have C7 := hide (bl_st b7 (unhide C6))
  have HT7 := hide ((b7.block _ (Array.getElem?_eq_some_iff.1 (unhide HT6)).1).trans (unhide HT6))
  clear b7 HP6 HI6 C6 HT6
  go_wp2_with fail
  refine (unhide KT w7 ((unhide HV3).below (unhide C7))).mono ?_
  rintro e w8 ⟨rfl, hTn, b8⟩
  have HP8 := hide ((unhide HP7).below b8)
  have HI8 := hide ((unhide HI7).below b8)
  have C8 := hide (bl_st b8 (unhide C7))
  have HT8 := hide ((b8.block _ (Array.getElem?_eq_some_iff.1 (unhide HT7)).1).trans (unhide HT7))
  have AN := hide (tO_acts (c := al.length) hTn)
  clear b8 HP7 HI7 C7 HT7 hTn
  go_wp2_with fail
  refine (unhide KE w8 _ _ (tO_acts (c := al.length) (unhide HT8)) (unhide AN)).mono ?_
  rintro e w9 ⟨rfl, b9⟩
  have HP9 := hide ((unhide HP8).below b9)
  have HI9 := hide ((unhide HI8).below b9)
  have C9 := hide (bl_st b9 (unhide C8))
  have HT9 := hide ((b9.block _ (Array.getElem?_eq_some_iff.1 (unhide HT8)).1).trans (unhide HT8))
  clear b9 HP8 HI8 C8 HT8
  clear AN
  go_wp2_with fail
  refine (unhide KM w9 gx (tO_nC (unhide HT9))).mono ?_
  rintro e w10 ⟨rfl, L10⟩
  have HP10 := hide ((unhide HP9).lone L10 (by have := unhide NUM; omega) (by have := unhide NUM; omega))
  have HI10 := hide ((unhide HI9).lone L10 (by have := unhide NUM; omega))
  have C10 := hide (L10.below (unhide C9) (by have := unhide HGX; omega) (unhide C9).size)
  clear L10 HP9 HI9 C9 HT9
  go_wp2_with fail
  refine (unhide KP w10 lv lw base g (unhide HP10) ((unhide TK).1.below (unhide C10))).mono ?_
  rintro e w11 ⟨rfl, b11⟩
  have HP11 := hide ((unhide HP10).below b11)
  have HI11 := hide ((unhide HI10).below b11)
  have C11 := hide (bl_st b11 (unhide C10))
  clear b11 HP10 HI10 C10
  go_wp2_with fail
  refine (unhide KQ w11 cv cw (unhide HI11).ints ((unhide TK).2.below (unhide C11))).mono ?_
  rintro e w12 ⟨rfl, b12⟩
  have HP12 := hide ((unhide HP11).below b12)
  have HI12 := hide ((unhide HI11).below b12)
  have C12 := hide (bl_st b12 (unhide C11))
  clear b12 HP11 HI11 C11
  go_wp2_with fail
  refine (unhide KMP w12 lv base g (unhide HP12)).mono ?_
  rintro e w13 ⟨rfl, hp, ht⟩
  have HP13 := hide hp
  have HI13 := hide ((unhide HI12).touchT ht (by have := unhide NUM; omega) (by have := unhide NUM; omega))
  have C13 := hide (ht.below (unhide C12) (by have := unhide NUM; have := unhide HGX; omega) (by have := unhide NUM; have := unhide HGX; omega) (unhide C12).size)
  clear hp ht HP12 HI12 C12
  go_wp2_with fail
  refine (unhide KMI w13 cv cb (unhide HI13)).mono ?_
  rintro e w14 ⟨rfl, hi, L14⟩
  have HP14 := hide ((unhide HP13).lone L14 (by have := unhide NUM; omega) (by have := unhide NUM; omega))
  have HI14 := hide hi
  have C14 := hide (L14.below (unhide C13) (by have := unhide NUM; have := unhide HGX; omega) (unhide C13).size)
  clear hi L14 HP13 HI13 C13
  go_wp2_with fail
  refine (unhide KHP w14 lv base g (unhide HP14)).mono ?_
  rintro e w15 ⟨rfl, b15⟩
  have HP15 := hide ((unhide HP14).below b15)
  have HI15 := hide ((unhide HI14).below b15)
  have C15 := hide (bl_st b15 (unhide C14))
  clear b15 HP14 HI14 C14
  go_wp2_with fail
  refine (unhide KHI w15 cv (unhide HI15).ints).mono ?_
  rintro e wh ⟨rfl, hwh⟩
  have hwh := hwh.symm
  subst hwh
  go_wp2_with fail
  refine (unhide KT w15 ((unhide HV3).below (unhide C15))).mono ?_
  rintro e w16 ⟨rfl, hTn, b16⟩
  have HP16 := hide ((unhide HP15).below b16)
  have HI16 := hide ((unhide HI15).below b16)
  have C16 := hide (bl_st b16 (unhide C15))
  have AN := hide (tO_acts (c := al.length) hTn)
  clear b16 HP15 HI15 C15 hTn
  go_wp2_with fail
  refine (unhide KI w16 _ (unhide AN)).mono ?_
  rintro e w17 ⟨lh, ch, rfl, ho, b17⟩
  obtain ⟨g', cb', base', _, _, _, _, _, hp, hi⟩ := unhide KTR _ _ _ _ ho
  have HQ17 := hide hp
  have HJ17 := hide hi
  have HP17 := hide ((unhide HP16).below b17)
  have HI17 := hide ((unhide HI16).below b17)
  have C17 := hide (bl_st b17 (unhide C16))
  clear b17 ho hp hi HP16 HI16 C16 AN
  go_wp2_with fail
  refine (unhide KP w17 lh lw base' g' (unhide HQ17) ((unhide TK).1.below (unhide C17))).mono ?_
  rintro e w18 ⟨rfl, b18⟩
  have HP18 := hide ((unhide HP17).below b18)
  have HI18 := hide ((unhide HI17).below b18)
  have C18 := hide (bl_st b18 (unhide C17))
  have HJ18 := hide ((unhide HJ17).below b18)
  clear b18 HP17 HI17 C17
  go_wp2_with fail
  refine (unhide KQ w18 ch cw (unhide HJ18).ints ((unhide TK).2.below (unhide C18))).mono ?_
  rintro e w19 ⟨rfl, b19⟩
  have HP19 := hide ((unhide HP18).below b19)
  have HI19 := hide ((unhide HI18).below b19)
  have C19 := hide (bl_st b19 (unhide C18))
  clear b19 HP18 HI18 C18
  go_wp2_with fail
  refine (unhide KHP w19 lv base g (unhide HP19)).mono ?_
  rintro e w20 ⟨rfl, b20⟩
  have HP20 := hide ((unhide HP19).below b20)
  have HI20 := hide ((unhide HI19).below b20)
  have C20 := hide (bl_st b20 (unhide C19))
  clear b20 HP19 HI19 C19
  go_wp2_with fail
  refine (unhide KHI w20 cv (unhide HI20).ints).mono ?_
  rintro e wh ⟨rfl, hwh⟩
  have hwh := hwh.symm
  subst hwh
  go_wp2_with fail
  go_ret
  exact ⟨rfl, bl_st (unhide C20) (unhide B3)⟩
end Go.Proofs.Ythonnlifgdnacaa
