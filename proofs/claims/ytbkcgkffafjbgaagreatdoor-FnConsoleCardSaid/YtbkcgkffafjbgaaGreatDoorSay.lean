/- Lists of texts copied by the program; a peer of its own, both sides. -/
import Derived.Test.YtbkcgkffafjbgaaGreatDoorFrm
import Derived.Test.YtbkcgkffafjbgaaGreatDoorLate
namespace Go.Proofs.YtbkcgkffafjbgaaGreatDoor
open Go.RowKit
set_option maxHeartbeats 4000000
set_option maxRecDepth 20000
/-- texts just made: a block of their own, as long as they are -/
def madeS (w w' : World) (v : Value) (ts : List ByteArray) : Prop :=
  ∃ g, v = .slice (some ⟨g, 0, none⟩) ts.length ts.length ∧ w.heap.size ≤ g ∧ g < w'.heap.size ∧ w'.heap[g]? = some (strO ts [])
theorem madeS.own {w w' : World} {v : Value} {ts : List ByteArray} (h : madeS w w' v ts) : ownG w.heap.size w'.heap.size w' v ts := by
  obtain ⟨g, rfl, h1, h2, h3⟩ := h
  exact ownG.of_ownS (.inr ⟨g, _, [], rfl, h1, h2, h3, Nat.le_refl _⟩)
theorem madeS.row {w w' : World} {v : Value} {ts : List ByteArray} (h : madeS w w' v ts) (hn : ts.length ≤ maxLen) : w'.ownsRow w.heap.size 9 1 v ts.length (ts.map Value.string) := by
  obtain ⟨g, rfl, h1, h2, h3⟩ := h
  refine ⟨by simp, .inr ⟨g, _, _, rfl, h1, h3, Nat.le_refl _, hn, by simp, ?_⟩⟩
  simp only [Nat.mul_one, List.append_nil]
  exact List.take_of_length_le (by simp)
theorem cloned82 (v : Value) (ts : List ByteArray) (w : World) (hv : strsV w v ts) (hn : ts.length ≤ 2097152) (hs : ∀ t ∈ ts, t.size ≤ 2097152) :
    Calls Tryz.prog 124 #[v] w fun e w' => ∃ r, e = .returned r ∧ madeS w w' r ts ∧ Below w.heap.size w w' := by
  obtain ⟨A, cap, rfl, hc⟩ := hv
  have HC := hide hc
  have HS := hide hs
  obtain ⟨n, hnx⟩ : ∃ n, n = ts.length := ⟨_, rfl⟩
  rw [← hnx] at hn HC ⊢
  have HN := hide hnx
  have mk := make_strs n (by omega)
  clear hc hnx hs
  go_enter Tryz.func124, Tryz.ntmps124
  go_wp2
  clear mk
  go_loopw [11] (fun i wr => ∃ j : Nat, j ≤ n ∧ i = .int .i64 j ∧ wr.heap[w.heap.size]? = some (strO (mixG ts (List.replicate n noS) j) []) ∧ Below w.heap.size w wr) (fun i _ => n - (intOf i).toNat)
  case atStart => exact ⟨0, by omega, rfl, by rw [mixG_zero, heap_at _ _ _ rfl], (Below.refl _ _).alloc (Nat.le_refl _) _⟩
  case round =>
    obtain ⟨j, hj, rfl, ho, hbl⟩ := hrel
    by_cases hlt : j < n
    · obtain ⟨b, off, hA, hbb, hcell⟩ := unhide HC (by omega)
      subst hA
      have q1 : (j : Int) < (n : Int) := by omega
      have q0 : (0 : Int) ≤ (j : Int) := by omega
      have hl : (mixG ts (List.replicate n noS) j).length = n := by rw [mixG_len _ _ _ (by simp [unhide HN])]; simp
      have p0 : wr.cell? ⟨b, off + j, none⟩ = some (.string (ts.getD j noS)) := (cell_below hbl hbb).trans (hcell j hlt)
      have K := hide (fun W => clone55 (ts.getD j noS) W (unhide HS _ (by rw [List.getD_eq_getElem?_getD, List.getElem?_eq_getElem (by rw [← unhide HN]; exact hlt)]; exact List.getElem_mem _)))
      have HJ := hide hlt
      have HL := hide hl
      have HO := hide ho
      have HB := hide hbl
      clear ho hbl hcell hbb hlt hj hl
      obtain ⟨xj, hxj⟩ : ∃ x, x = ts.getD j noS := ⟨_, rfl⟩
      rw [← hxj] at p0 K
      have HX := hide hxj
      clear hxj
      go_wp2_with fail
      refine (unhide K _).mono ?_
      rintro e w1 ⟨rfl, b1⟩
      have ho := (b1.block _ (Array.getElem?_eq_some_iff.1 (unhide HO)).1).trans (unhide HO)
      have p1 := cell_strO ho j (by have := unhide HJ; have := unhide HL; omega)
      have p2 := free_strO ho j
      have p3 := set_strO ho j (ts.getD j noS) (by have := unhide HJ; have := unhide HL; omega)
      rw [mixG_succ _ _ _ _ (by simp [unhide HN]) (by simpa using unhide HJ), ← unhide HX] at p3
      have fin : Hid ((w1.setCell ⟨w.heap.size, j, none⟩ (.string xj)).heap[w.heap.size]? = some (strO (mixG ts (List.replicate n noS) (j + 1)) []) ∧ Below w.heap.size w (w1.setCell ⟨w.heap.size, j, none⟩ (.string xj))) := ⟨p3, bl_set (bl_st b1 (unhide HB)) (Nat.le_refl _)⟩
      clear ho b1 p3 K p0 HO HB
      generalize (mixG ts (List.replicate n noS) j).getD j noS = m0 at *
      go_wp2
      go_roundw
      case rel => exact ⟨j + 1, unhide HJ, by go_num, (unhide fin).1, (unhide fin).2⟩
      case measure => have := unhide HJ; simp [intOf]; omega
    · obtain rfl : j = n := by omega
      have hm := mixG_all ts (List.replicate j noS) (by simp [unhide HN])
      rw [List.length_replicate] at hm
      rw [hm] at ho
      have HO := hide ho
      have hbel := hide hbl
      clear ho hbl hm
      go_wp2
      go_ret
      refine ⟨_, rfl, ⟨w.heap.size, ?_, Nat.le_refl _, (Array.getElem?_eq_some_iff.1 (unhide HO)).1, unhide HO⟩, unhide hbel⟩
      rw [← unhide HN]
      rfl
/-- a peer just made: its lists in blocks of their own -/
def madeP (w w' : World) (v : Value) (p : Pe) : Prop :=
  ∃ g h : Nat, v = peA (.slice (some ⟨g, 0, none⟩) p.q.length p.q.length) p.s p.e (.slice (some ⟨h, 0, none⟩) p.i.length p.i.length) ∧ w.heap.size ≤ g ∧ g < h ∧ h < w'.heap.size ∧ w'.heap[g]? = some (strO p.q []) ∧ w'.heap[h]? = some (strO p.i [])
theorem own53 (v : Value) (p : Pe) (w : World) (hv : peV w v p) (hf : peFew p) (hs : ∀ t ∈ p.q, t.size ≤ 2097152) (hs' : ∀ t ∈ p.i, t.size ≤ 2097152) :
    Calls Tryz.prog 111 #[v] w fun e w' => ∃ r, e = .returned r ∧ madeP w w' r p ∧ Below w.heap.size w w' := by
  obtain ⟨q, i, rfl, hq, hi⟩ := hv
  obtain ⟨f1, f2⟩ := hf
  obtain ⟨xq, s, e, xi⟩ := p
  dsimp only at *
  have B1 : Below w.heap.size w ((w.alloc (.cells #[q, .int .i64 s, .int .i64 e, i] 53)).alloc (.cells #[.slice none 0 0, .int .i64 0, .int .i64 0, .slice none 0 0] 53)) := bl_al (bl_al (Below.refl _ _))
  have n1 : ((w.alloc (.cells #[q, .int .i64 s, .int .i64 e, i] 53)).alloc (.cells #[.slice none 0 0, .int .i64 0, .int .i64 0, .slice none 0 0] 53)).heap[w.heap.size + 1]? = some (.cells #[.slice none 0 0, .int .i64 0, .int .i64 0, .slice none 0 0] 53 (0, 0)) := heap_at _ _ _ (by simp)
  have n0 : ((w.alloc (.cells #[q, .int .i64 s, .int .i64 e, i] 53)).alloc (.cells #[.slice none 0 0, .int .i64 0, .int .i64 0, .slice none 0 0] 53)).heap[w.heap.size]? = some (.cells #[q, .int .i64 s, .int .i64 e, i] 53 (0, 0)) := by
    rw [Below.heap_alloc _ _ _ (by simp)]
    exact heap_at _ _ _ rfl
  have HSZ : Hid (((w.alloc (.cells #[q, .int .i64 s, .int .i64 e, i] 53)).alloc (.cells #[.slice none 0 0, .int .i64 0, .int .i64 0, .slice none 0 0] 53)).heap.size = w.heap.size + 1 + 1) := hide (by simp)
  have K1 := hide (fun W (h : strsV W q xq) => cloned82 q xq W h (by omega) hs)
  have K2 := hide (fun W (h : strsV W i xi) => cloned82 i xi W h (by omega) hs')
  have HN0 := hide n0
  have HN1 := hide n1
  have HC := hide (pc_row n0)
  have HB := hide B1
  have HQ := hide (hq.below B1)
  have HI := hide (hi.below B1)
  obtain ⟨A, ca, rfl⟩ := hq.slice
  obtain ⟨A2, cb, rfl⟩ := hi.slice
  clear n0 n1 B1 hq hi f1 f2 hs hs'
  go_enter Tryz.func111, Tryz.ntmps111
  go_wp2
  generalize (w.alloc (.cells #[.slice A xq.length ca, .int .i64 s, .int .i64 e, .slice A2 xi.length cb] 53)).alloc (.cells #[.slice none 0 0, .int .i64 0, .int .i64 0, .slice none 0 0] 53) = w1 at *
  refine wp_region_late (S := fun W' => Below w1.heap.size w1 W') (late := [7, 8, 9]) (by kernel_rfl) ?_
  have hS0 : Below w1.heap.size w1 { w1 with drawn := w1.drawn + 1 } := below_drewN (Below.refl _ _) 1
  refine wpAnyL_take (i := 0) (oi := { dst := some 3, op := Op.fieldAddr 53 (Operand.tmp 1) 0, type := 0, pos := "l15_talk.go:55", after := #[], guard := none }) (v := ?_) rfl (by kernel_rfl) (by kernel_rfl) (by kernel_rfl) (by kernel_rfl) (fun _ _ _ h => h) (Or.inl ⟨by rfl, ?_⟩) hS0 ?_
  rotate_left
  · intro W hSw
    obtain ⟨_, c0, c1, c2, c3⟩ := (unhide HC).below hSw
    go_simp
    try with_reducible rfl
  simp only [Act.put, List.setIfInBounds_toArray, List.set_cons_zero, List.set_cons_succ]
  refine wpAnyL_take (i := 1) (oi := { dst := some 4, op := Op.load 23 (Operand.tmp 3), type := 23, pos := "l15_talk.go:55", after := #[{ on := 0, ground := Ground.data }], guard := none }) (v := ?_) rfl (by kernel_rfl) (by kernel_rfl) (by kernel_rfl) (by kernel_rfl) (fun _ _ _ h => h) (Or.inl ⟨by rfl, ?_⟩) hS0 ?_
  rotate_left
  · intro W hSw
    obtain ⟨_, c0, c1, c2, c3⟩ := (unhide HC).below hSw
    go_simp
    try with_reducible rfl
  simp only [Act.put, List.setIfInBounds_toArray, List.set_cons_zero, List.set_cons_succ]
  refine wpAnyL_take (i := 3) (oi := { dst := some 6, op := Op.fieldAddr 53 (Operand.tmp 1) 3, type := 0, pos := "l15_talk.go:55", after := #[], guard := none }) (v := ?_) rfl (by kernel_rfl) (by kernel_rfl) (by kernel_rfl) (by kernel_rfl) (fun _ _ _ h => h) (Or.inl ⟨by rfl, ?_⟩) hS0 ?_
  rotate_left
  · intro W hSw
    obtain ⟨_, c0, c1, c2, c3⟩ := (unhide HC).below hSw
    go_simp
    try with_reducible rfl
  simp only [Act.put, List.setIfInBounds_toArray, List.set_cons_zero, List.set_cons_succ]
  refine wpAnyL_take (i := 4) (oi := { dst := some 7, op := Op.load 23 (Operand.tmp 6), type := 23, pos := "l15_talk.go:55", after := #[{ on := 3, ground := Ground.data }], guard := none }) (v := ?_) rfl (by kernel_rfl) (by kernel_rfl) (by kernel_rfl) (by kernel_rfl) (fun _ _ _ h => h) (Or.inl ⟨by rfl, ?_⟩) hS0 ?_
  rotate_left
  · intro W hSw
    obtain ⟨_, c0, c1, c2, c3⟩ := (unhide HC).below hSw
    go_simp
    try with_reducible rfl
  simp only [Act.put, List.setIfInBounds_toArray, List.set_cons_zero, List.set_cons_succ]
  refine wpAnyL_one (i := 2) (by kernel_rfl) ?_
  refine wpOp_step (o := { dst := some 5, op := Op.call { callee := Callee.value (Operand.func 124), args := #[Operand.tmp 4], argTypes := #[23] }, type := 23, pos := "l15_talk.go:55", after := #[{ on := 1, ground := Ground.data }], guard := none }) rfl fun K' hK => step_enterW (by rfl) 124 #[.slice A xq.length ca] (by go_simp) ((unhide K1 _ ((unhide HQ).below hS0)).mono ?_)
  rintro e w2 ⟨r2, rfl, m2, b2⟩
  have s2 := bl_st b2 hS0
  refine ⟨_, rfl, hK _ _ ⟨(fun _ => s2), ?_⟩⟩
  simp only [Act.put, List.setIfInBounds_toArray, List.set_cons_zero, List.set_cons_succ]
  refine wpAnyL_take (i := 6) (oi := { dst := some 9, op := Op.fieldAddr 53 (Operand.tmp 1) 0, type := 0, pos := "l15_talk.go:55", after := #[{ on := 0, ground := Ground.phase }, { on := 1, ground := Ground.phase }, { on := 2, ground := Ground.phase }, { on := 3, ground := Ground.phase }, { on := 4, ground := Ground.phase }, { on := 5, ground := Ground.textOnly Departure.lateStoresUnsure }], guard := none }) (v := ?_) rfl (by kernel_rfl) (by kernel_rfl) (by kernel_rfl) (by kernel_rfl) (fun _ _ _ h => h) (Or.inl ⟨by rfl, ?_⟩) s2 ?_
  rotate_left
  · intro W hSw
    obtain ⟨_, c0, c1, c2, c3⟩ := (unhide HC).below hSw
    go_simp
    try with_reducible rfl
  simp only [Act.put, List.setIfInBounds_toArray, List.set_cons_zero, List.set_cons_succ]
  refine wpAnyL_one (i := 5) (by kernel_rfl) ?_
  refine wpOp_step (o := { dst := some 8, op := Op.call { callee := Callee.value (Operand.func 124), args := #[Operand.tmp 7], argTypes := #[23] }, type := 23, pos := "l15_talk.go:55", after := #[{ on := 4, ground := Ground.data }, { on := 2, ground := Ground.chain }], guard := none }) rfl fun K' hK => step_enterW (by rfl) 124 #[.slice A2 xi.length cb] (by go_simp) ((unhide K2 _ ((unhide HI).below s2)).mono ?_)
  rintro e w3 ⟨r3, rfl, m3, b3⟩
  have s3 := bl_st b3 s2
  have N1 := (s3.block _ (Array.getElem?_eq_some_iff.1 (unhide HN1)).1).trans (unhide HN1)
  have N0 := (s3.block _ (Array.getElem?_eq_some_iff.1 (unhide HN0)).1).trans (unhide HN0)
  obtain ⟨_, c0, c1, c2, c3⟩ := pc_row N0
  have z0 := row_free (i := 0) N0
  have z3 := row_free (i := 3) N0
  have M1 := hide m2
  have M2 := hide m3
  obtain ⟨g2, rfl, _⟩ := m2
  obtain ⟨g3, rfl, _⟩ := m3
  refine ⟨_, rfl, hK _ _ ⟨(fun _ => s3), ?_⟩⟩
  simp only [Act.put, List.setIfInBounds_toArray, List.set_cons_zero, List.set_cons_succ]
  refine wpAnyL_one (i := 7) (by kernel_rfl) ?_
  refine wpOp_step (o := { dst := none, op := Op.store 23 (Operand.tmp 9) (Operand.tmp 5), type := 0, pos := "l15_talk.go:55", after := #[{ on := 6, ground := Ground.data }, { on := 2, ground := Ground.data }, { on := 5, ground := Ground.chain }, { on := 0, ground := Ground.phase }, { on := 1, ground := Ground.phase }, { on := 2, ground := Ground.phase }, { on := 3, ground := Ground.phase }, { on := 4, ground := Ground.phase }, { on := 5, ground := Ground.textOnly Departure.lateStoresUnsure }], guard := none }) rfl fun K' hK => step_skipW (by rfl) (w3.setCell ⟨w.heap.size, 0, none⟩ (.slice (some ⟨g2, 0, none⟩) xq.length xq.length)) (by go_simp) ?_
  refine hK _ _ ⟨(fun h => by cases h), ?_⟩
  try simp only [Act.put]
  refine wpAnyL_one (i := 8) (by kernel_rfl) ?_
  refine wpOp_step (o := { dst := some 10, op := Op.fieldAddr 53 (Operand.tmp 1) 3, type := 0, pos := "l15_talk.go:55", after := #[{ on := 0, ground := Ground.phase }, { on := 1, ground := Ground.phase }, { on := 2, ground := Ground.phase }, { on := 3, ground := Ground.phase }, { on := 4, ground := Ground.phase }, { on := 5, ground := Ground.phase }, { on := 6, ground := Ground.phase }, { on := 7, ground := Ground.phase }], guard := none }) rfl fun K' hK => step_valueW (by rfl) (.pointer (some ⟨w.heap.size, 3, none⟩)) (w3.setCell ⟨w.heap.size, 0, none⟩ (.slice (some ⟨g2, 0, none⟩) xq.length xq.length)) (by go_simp) ?_
  refine hK _ _ ⟨(fun h => by cases h), ?_⟩
  simp only [Act.put, List.setIfInBounds_toArray, List.set_cons_zero, List.set_cons_succ]
  have c3' : (w3.setCell ⟨w.heap.size, 0, none⟩ (.slice (some ⟨g2, 0, none⟩) xq.length xq.length)).cell? ⟨w.heap.size, 3, none⟩ = some (.slice A2 xi.length cb) := by simpa using row_cell (i := 3) (row_set (i := 0) (v := .slice (some ⟨g2, 0, none⟩) xq.length xq.length) N0)
  have z3' : (w3.setCell ⟨w.heap.size, 0, none⟩ (.slice (some ⟨g2, 0, none⟩) xq.length xq.length)).frozen? ⟨w.heap.size, 3, none⟩ = false := row_free (row_set (i := 0) (v := .slice (some ⟨g2, 0, none⟩) xq.length xq.length) N0)
  refine wpAnyL_one (i := 9) (by kernel_rfl) ?_
  refine wpOp_step (o := { dst := none, op := Op.store 23 (Operand.tmp 10) (Operand.tmp 8), type := 0, pos := "l15_talk.go:55", after := #[{ on := 8, ground := Ground.data }, { on := 5, ground := Ground.data }, { on := 7, ground := Ground.chain }, { on := 0, ground := Ground.phase }, { on := 1, ground := Ground.phase }, { on := 2, ground := Ground.phase }, { on := 3, ground := Ground.phase }, { on := 4, ground := Ground.phase }, { on := 5, ground := Ground.phase }, { on := 6, ground := Ground.phase }, { on := 7, ground := Ground.phase }], guard := none }) rfl fun K' hK => step_skipW (by rfl) ((w3.setCell ⟨w.heap.size, 0, none⟩ (.slice (some ⟨g2, 0, none⟩) xq.length xq.length)).setCell ⟨w.heap.size, 3, none⟩ (.slice (some ⟨g3, 0, none⟩) xi.length xi.length)) (by go_simp) ?_
  refine hK _ _ ⟨(fun h => by cases h), ?_⟩
  try simp only [Act.put]
  refine wpAnyL_done (by kernel_rfl) ?_ _
  have lone := hide ((lone_setCell w.heap.size 0 w3 (.slice (some ⟨g2, 0, none⟩) xq.length xq.length)).trans (lone_setCell w.heap.size 3 _ (.slice (some ⟨g3, 0, none⟩) xi.length xi.length)))
  have n0' := row_set (i := 3) (v := .slice (some ⟨g3, 0, none⟩) xi.length xi.length) (row_set (i := 0) (v := .slice (some ⟨g2, 0, none⟩) xq.length xq.length) N0)
  simp only [List.setIfInBounds_toArray, List.set_cons_zero, List.set_cons_succ] at n0'
  have N0' := hide n0'
  have N1' := hide (((unhide lone).block _ (Array.getElem?_eq_some_iff.1 N1).1 (by omega)).trans N1)
  have B3 := hide ((unhide lone).below (bl_st s3 (unhide HB)) (Nat.le_refl _) (bl_st s3 (unhide HB)).size)
  have S2 := hide s2.size
  have Y2 := hide b2.size
  have Y3 := hide b3.size
  have BB := hide b3
  have SZW : Hid (((w3.setCell ⟨w.heap.size, 0, none⟩ (.slice (some ⟨g2, 0, none⟩) xq.length xq.length)).setCell ⟨w.heap.size, 3, none⟩ (.slice (some ⟨g3, 0, none⟩) xi.length xi.length)).heap.size = w3.heap.size) := hide (by rw [size_set, size_set])
  have HS0 := hide hS0.size
  clear hS0 s2 s3 b2 b3 N1 N0 c0 c1 c2 c3 z0 z3 c3' z3' n0' K1 K2 HQ HI HN0 HN1 HC
  generalize (w3.setCell ⟨w.heap.size, 0, none⟩ (.slice (some ⟨g2, 0, none⟩) xq.length xq.length)).setCell ⟨w.heap.size, 3, none⟩ (.slice (some ⟨g3, 0, none⟩) xi.length xi.length) = w4 at *
  go_wp2_with (first
    | refine wpList_load_row rfl 53 _ rfl w.heap.size rfl 53 #[.slice (some ⟨g2, 0, none⟩) xq.length xq.length, .int .i64 s, .int .i64 e, .slice (some ⟨g3, 0, none⟩) xi.length xi.length] (0, 0) _ (unhide N0') Tryz.underlying53 rfl (by kernel_rfl) ?_
    | refine wpList_store_row rfl 53 _ _ rfl (w.heap.size + 1) #[.slice (some ⟨g2, 0, none⟩) xq.length xq.length, .int .i64 s, .int .i64 e, .slice (some ⟨g3, 0, none⟩) xi.length xi.length] rfl rfl 53 #[.slice none 0 0, .int .i64 0, .int .i64 0, .slice none 0 0] (unhide N1') (by kernel_rfl) rfl (by kernel_rfl) ?_)
  have L8 : Lone (w.heap.size + 1) w4 (w4.setRow (w.heap.size + 1) #[.slice (some ⟨g2, 0, none⟩) xq.length xq.length, .int .i64 s, .int .i64 e, .slice (some ⟨g3, 0, none⟩) xi.length xi.length]) := lone_setRow _ _ _
  obtain ⟨ga, ea, h1, h2, h3⟩ := unhide M1
  obtain ⟨gb, eb, k1, k2, k3⟩ := unhide M2
  have ga' : g2 = ga := by simpa using ea
  have gb' : g3 = gb := by simpa using eb
  subst ga' gb'
  have z := unhide SZW
  have y2 := unhide Y2
  have y3 := unhide Y3
  have hs0 := unhide HS0
  have hsz := unhide HSZ
  have h3' : w3.heap[g2]? = some (strO xq []) := ((unhide BB).block _ h2).trans h3
  have big : w.heap.size + 1 + 1 ≤ g2 := by
    have : { w1 with drawn := w1.drawn + 1 }.heap.size = w1.heap.size := rfl
    omega
  refine bodyPost_ret (v := peA (.slice (some ⟨g2, 0, none⟩) xq.length xq.length) s e (.slice (some ⟨g3, 0, none⟩) xi.length xi.length)) ?_ rfl ⟨_, rfl, ⟨g2, g3, rfl, ?_, ?_, ?_, ?_, ?_⟩, ?_⟩
  · exact results_cell_row rfl _ _ (w.heap.size + 1) 53 _ (0, 0) _ rfl (get_setRow (unhide N1')) Tryz.underlying53 rfl (by kernel_rfl)
  · omega
  · omega
  · rw [size_setRow]; omega
  · rw [L8.block g2 (by omega) (by omega), (unhide lone).block g2 (by omega) (by omega)]; exact h3'
  · rw [L8.block g3 (by omega) (by omega), (unhide lone).block g3 (by omega) (by omega)]; exact k3
  · exact L8.below (unhide B3) (by omega) (unhide B3).size
end Go.Proofs.YtbkcgkffafjbgaaGreatDoor
