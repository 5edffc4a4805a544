/- The program's xored: a stream put on bytes. -/
import Derived.Test.YtggiijlgdpkkfaaDoorByt
namespace Go.Proofs.YtggiijlgdpkkfaaDoor
open Go.RowKit
set_option maxHeartbeats 4000000
set_option maxRecDepth 20000
theorem make_bytes (n : Nat) (hn : n ≤ 2097152) (w : World) : (Instr.makeSlice 44 (.int .i64 (n : Int)) (.int .i64 (n : Int))).run Tryd.prog w = .ok (.slice (some ⟨w.heap.size, 0, none⟩) n n) (w.alloc (rowObj 5 .u8 (List.replicate n 0) [])) := by
  obtain ⟨k0, hk0, kz0, kz1, kz2⟩ := info_parts info5
  have h := run_makeSlice w (P := Tryd.prog) 44 5 k0 (.int .u8 0) Tryd.underlying44 hk0 kz0 .i64 .i64 (n : Int) (n : Int) (by omega) (Int.le_refl _) (by rw [kz1]; omega) (by rw [kz2]; omega) (by omega)
  rw [kz1, Int.toNat_natCast, Nat.mul_one] at h
  rw [h, rowObj]
  congr 3
  apply Array.ext_getElem?
  intro i
  by_cases hi : i < n
  · simp [madeCells, Value.cells, hi, Nat.mod_one]
  · simp [madeCells, Value.cells, hi]
def kObj (B : List Int) : Obj := rowObj 62 .u8 B []
/-- where xored stands behind j bytes -/
structure Xs (w : World) (b : Nat) (key nonce : ByteArray) (c : Int) (xs : List Int) (j : Nat) (W : World) : Prop where
  s : W.heap[b]? = some (wObj (startW key nonce 0))
  o : W.heap[b + 1]? = some (rowObj 5 .u8 (mixL (xorL key nonce c xs) (List.replicate xs.length 0) j) [])
  k : ∃ B, B.length = 64 ∧ (j % 64 ≠ 0 → B = blkN key nonce (c + (j / 64 : Nat))) ∧ W.heap[b + 1 + 1]? = some (kObj B)
  below : Below b w W
theorem Xs.lt {w W : World} {b j : Nat} {key nonce : ByteArray} {c : Int} {xs : List Int} (h : Xs w b key nonce c xs j W) : b + 1 + 1 < W.heap.size := by
  obtain ⟨B, _, _, hk⟩ := h.k
  exact (Array.getElem?_eq_some_iff.1 hk).1
theorem xs_made (w : World) (A B C : Obj) (key nonce : ByteArray) (c : Int) (xs : List Int) (hA : A = wObj (startW key nonce 0)) (hB : B = rowObj 5 .u8 (List.replicate xs.length 0) []) (hC : C = kObj (List.replicate 64 0)) :
    Xs w w.heap.size key nonce c xs 0 (((w.alloc A).alloc B).alloc C) := by
  refine ⟨?_, ?_, ⟨List.replicate 64 0, by simp, fun h => by simp at h, ?_⟩, (((Below.refl _ _).alloc (Nat.le_refl _) _).alloc (by simp) _).alloc (by simp; omega) _⟩
  · rw [Below.heap_alloc _ _ _ (by simp; omega), Below.heap_alloc _ _ _ (by simp), heap_at _ _ _ rfl, hA]
  · rw [Below.heap_alloc _ _ _ (by simp), heap_at _ _ _ (by simp), hB, mixL_zero]
  · rw [heap_at _ _ _ (by simp), hC]
theorem get_setRow_other {W : World} {g n : Nat} {cs : Array Value} (h : n ≠ g) : (W.setRow g cs).heap[n]? = W.heap[n]? := by
  simp only [World.setRow]; rw [Array.getElem?_modify, if_neg (by omega)]
theorem xs_blk {w W W2 : World} {b j : Nat} {key nonce : ByteArray} {c : Int} {xs : List Int} (h : Xs w b key nonce c xs j W) (hb : Below W.heap.size W W2) (B : List Int) (hB : B.length = 64) (hj : True → B = blkN key nonce (c + (j / 64 : Nat))) :
    Xs w b key nonce c xs j (W2.setRow (b + 1 + 1) (B.map (Value.int .u8)).toArray) := by
  have hlt := h.lt
  obtain ⟨B0, _, _, hk⟩ := h.k
  refine ⟨?_, ?_, ⟨B, hB, fun _ => hj trivial, ?_⟩, ?_⟩
  · rw [get_setRow_other (by omega), hb.block _ (by omega)]; exact h.s
  · rw [get_setRow_other (by omega), hb.block _ (by omega)]; exact h.o
  · rw [get_setRow ((hb.block _ hlt).trans hk), kObj, rowObj, List.append_nil]
  · exact below_setRow (h.below.trans (hb.mono (by omega))) (by omega)
theorem Xs.next {w W : World} {b j : Nat} {key nonce : ByteArray} {c : Int} {xs : List Int} (h : Xs w b key nonce c xs j W) (hk : W.heap[b + 1 + 1]? = some (kObj (blkN key nonce (c + (j / 64 : Nat))))) (hj : j < xs.length) :
    Xs w b key nonce c xs (j + 1) (rowL W (b + 1) 5 .u8 ((mixL (xorL key nonce c xs) (List.replicate xs.length 0) j).set j (x8 (xs.getD j 0) (ks key nonce c j))) []) := by
  have hlt := h.lt
  rw [← xorL_at key nonce c xs j hj, mixL_succ _ _ _ (by simp [xorL_len]) (by simpa using hj)]
  refine ⟨?_, ?_, ⟨blkN key nonce (c + (j / 64 : Nat)), blkN_len _ _ _, fun h64 => by rw [show (j + 1) / 64 = j / 64 by omega], ?_⟩, ?_⟩
  · rw [get_row_other _ _ _ _ _ _ _ (by omega)]; exact h.s
  · exact get_row _ _ _ _ _ _ (by omega)
  · rw [get_row_other _ _ _ _ _ _ _ (by omega)]; exact hk
  · exact below_row _ _ _ _ _ _ h.below (by omega)
theorem Xs.facts {w W : World} {b j : Nat} {key nonce : ByteArray} {c : Int} {xs : List Int} (h : Xs w b key nonce c xs j W) (hk : W.heap[b + 1 + 1]? = some (kObj (blkN key nonce (c + (j / 64 : Nat))))) (hj : j < xs.length) (e : Nat) (he : e = j % 64) :
    (∃ y, W.cell? ⟨b + 1, j, none⟩ = some (.int .u8 y)) ∧ W.frozen? ⟨b + 1, j, none⟩ = false ∧ (∀ v, W.setCell ⟨b + 1, j, none⟩ (.int .u8 v) = rowL W (b + 1) 5 .u8 ((mixL (xorL key nonce c xs) (List.replicate xs.length 0) j).set j v) []) ∧ W.cell? ⟨b + 1 + 1, e, none⟩ = some (.int .u8 (ks key nonce c j)) := by
  have hlt := h.lt
  have hl : (mixL (xorL key nonce c xs) (List.replicate xs.length 0) j).length = xs.length := by rw [mixL_len _ _ _ (by simp [xorL_len])]; simp
  have hr := row_same W (b + 1) 5 .u8 _ [] h.o
  refine ⟨⟨_, cell_rowObj h.o j (by omega)⟩, ?_, ?_, ?_⟩
  · have := frozen_row W (b + 1) 5 .u8 (mixL (xorL key nonce c xs) (List.replicate xs.length 0) j) [] j (by omega)
    rwa [hr] at this
  · intro v
    have := set_row W (b + 1) 5 .u8 (mixL (xorL key nonce c xs) (List.replicate xs.length 0) j) [] j v (by omega) (by omega)
    rwa [hr] at this
  · rw [cell_rowObj hk e (by rw [blkN_len]; omega), he]; rfl
theorem xored24 (key nonce : ByteArray) (c : Int) (h0c : 0 ≤ c) (h1c : c ≤ 4294966271) (xs : List Int) (hn : xs.length ≤ 65536) (v : Value) (w : World) (hv : bytesV w v xs) (t : TypeId) (fr : Nat × Nat) (hq : w.heap[0]? = some (.cells qArr t fr)) :
    Calls Tryd.prog 30 #[.agg ((startW key nonce 0).map wV).toArray, .int .u32 c, v] w fun e w' => ∃ r, e = .returned r ∧ ownB w.heap.size w' r (xorL key nonce c xs) ∧ Below w.heap.size w w' := by
  have h0 : 0 < w.heap.size := (Array.getElem?_eq_some_iff.1 hq).1
  have HQ := hide hq
  have H0 := hide h0
  obtain ⟨A, cap, rfl, hB, hc⟩ := hv
  have HC := hide hc
  have HB := hide hB
  have hz : xs.length = xs.length := rfl
  obtain ⟨n, hnn⟩ : ∃ n, n = xs.length := ⟨_, rfl⟩
  rw [← hnn] at hn HC ⊢
  have HN := hide hnn
  have hS := startW_len key nonce 0
  have HS : Hid ((Tryd.prog.info? 53).map (·.size) = some ((startW key nonce 0).map wV).toArray.size) := hide (by rw [(zero_of_info info43).2]; simp [hS])
  clear hq h0 hc hB hz hnn hS
  have mk := make_bytes n (by omega)
  go_enter Tryd.func30, Tryd.ntmps30
  go_wp2
  generalize hW : ((w.alloc _).alloc _).alloc _ = W
  have ST : Hid (Xs w w.heap.size key nonce c xs 0 W) := by
    rw [← hW]
    refine xs_made w _ _ _ key nonce c xs ?_ ?_ ?_
    · rw [wObj, List.append_nil]
    · rw [unhide HN]
    · kernel_rfl
  clear hW mk
  have n0 : (0 : Int) ≤ (n : Int) := by omega
  go_loopw [16] (fun i wr => ∃ j : Nat, j ≤ n ∧ i = .int .i64 j ∧ Xs w w.heap.size key nonce c xs j wr) (fun i _ => n - (intOf i).toNat)
  case atStart => exact ⟨0, by omega, rfl, unhide ST⟩
  case round =>
    clear ST
    obtain ⟨j, hj, rfl, st⟩ := hrel
    by_cases hlt : j < n
    · have qj : (j : Int) < (n : Int) := by omega
      have q0 : (0 : Int) ≤ (j : Int) := by omega
      obtain ⟨b, off, hA, hbl, hcell⟩ := unhide HC (by omega)
      subst hA
      have HBL := hide hbl
      have pj : wr.cell? ⟨b, off + j, none⟩ = some (.int .u8 (xs.getD j 0)) := (cell_below st.below hbl).trans (hcell j (by have := unhide HN; omega))
      have HCE := hide hcell
      have SX := hide st
      obtain ⟨u0, u1⟩ := (unhide HB).at j
      clear st hbl hcell
      generalize hxj : xs.getD j 0 = xj at *
      have HXJ := hide hxj
      clear hxj
      by_cases h64 : j % 64 = 0
      · have h64' : (j : Int) % 64 = 0 := by omega
        obtain ⟨m, hm⟩ : ∃ m, m = j / 64 := ⟨_, rfl⟩
        have m0 : (0 : Int) ≤ (m : Int) := by omega
        have m1 : (m : Int) ≤ 1023 := by omega
        have dm : (j : Int) / 64 = (m : Int) := by omega
        have HM := hide hm
        clear hm h64
        have hsv : Hid (wr.heap[w.heap.size]? = some (.cells ((startW key nonce 0).map wV).toArray 53 (0, 0))) := hide (by rw [(unhide SX).s, wObj, List.append_nil])
        have hblk := hide (start_blk key nonce (c + (m : Int)) wr t fr (((unhide SX).below.block 0 (unhide H0)).trans (unhide HQ)))
        rw [show (c + (m : Int)) % 4294967296 = c + (m : Int) by omega] at hblk
        generalize ((startW key nonce 0).map wV).toArray = sv at *
        go_wp2_with (refine wpList_load_row rfl 53 _ rfl w.heap.size rfl 53 _ (0, 0) _ (unhide hsv) Tryd.underlying53 rfl (unhide HS) ?_)
        refine (unhide hblk).mono ?_
        rintro e w2 ⟨rfl, hb2⟩
        have sx2 := xs_blk (unhide SX) hb2 (blkN key nonce (c + (m : Int))) (blkN_len _ _ _) (fun _ => by rw [← unhide HM])
        obtain ⟨B0, hB0, _, hk0⟩ := (unhide SX).k
        have hk2 : Hid (w2.heap[w.heap.size + 1 + 1]? = some (kObj B0)) := hide ((hb2.block _ (unhide SX).lt).trans hk0)
        rw [kObj, rowObj, List.append_nil] at hk2
        have hkk : Hid ((w2.setRow (w.heap.size + 1 + 1) ((blkN key nonce (c + (m : Int))).map (Value.int .u8)).toArray).heap[w.heap.size + 1 + 1]? = some (kObj (blkN key nonce (c + (j / 64 : Nat))))) := hide (by
          rw [get_setRow (unhide hk2), kObj, rowObj, List.append_nil, ← unhide HM])
        have hjx : Hid (j < xs.length) := by rw [← unhide HN]; exact hlt
        obtain ⟨⟨y0, f1⟩, f2, f3, f4⟩ := sx2.facts (unhide hkk) (unhide hjx) 0 (by omega)
        have fin := hide (sx2.next (unhide hkk) (unhide hjx))
        rw [unhide HXJ] at fin
        have hsz : Hid ((Tryd.prog.info? 62).map (·.size) = some ((blkN key nonce (c + (m : Int))).map (Value.int .u8)).toArray.size) := hide (by rw [(zero_of_info info49).2]; simp [blkN_len])
        have hol : Hid ((B0.map (Value.int .u8)).toArray.size = ((blkN key nonce (c + (m : Int))).map (Value.int .u8)).toArray.size) := hide (by simp [blkN_len, hB0])
        have hall : Hid (((blkN key nonce (c + (m : Int))).map (Value.int .u8)).toArray.all (·.oneCell') = true) := hide (by simp [Value.oneCell'])
        clear hb2 sx2 hB0 hk0 pj hkk
        generalize ((blkN key nonce (c + (m : Int))).map (Value.int .u8)).toArray = cs at *
        generalize mixL (xorL key nonce c xs) (List.replicate xs.length 0) j = ml at *
        generalize ks key nonce c j = kj at *
        go_wp2_with (refine wpList_store_row rfl 62 _ _ rfl (w.heap.size + 1 + 1) cs rfl rfl 62 _ (unhide hk2) (unhide hsz) (unhide hol) (unhide hall) ?_)
        go_roundw
        case rel =>
          first
            | exact ⟨j + 1, by omega, by go_num, unhide fin⟩
            | ((repeat apply Exists.intro); refine ⟨⟨j + 1, by omega, ?_, unhide fin⟩, rfl⟩; go_num)
        case measure => simp [intOf]; omega
      · have sx2 := unhide SX
        obtain ⟨B0, hB0, hBe, hk0⟩ := sx2.k
        rw [hBe h64] at hk0
        have e0 : (0 : Int) ≤ ((j % 64 : Nat) : Int) := by omega
        have e1 : ((j % 64 : Nat) : Int) < 64 := by omega
        have e2 : (j : Int) % 64 = ((j % 64 : Nat) : Int) := by omega
        have h64' : ¬ ((j % 64 : Nat) : Int) = 0 := by omega
        have hjx : Hid (j < xs.length) := by rw [← unhide HN]; exact hlt
        obtain ⟨e, he⟩ : ∃ e, e = j % 64 := ⟨_, rfl⟩
        obtain ⟨⟨y0, f1⟩, f2, f3, f4⟩ := sx2.facts hk0 (unhide hjx) e he
        have fin := hide (sx2.next hk0 (unhide hjx))
        rw [unhide HXJ] at fin
        rw [← he] at e0 e1 e2 h64'
        have e9 : decide ((e : Int) = 0) = false := by simpa using h64'
        have HE := hide he
        clear he hB0 hBe hk0 sx2 h64
        generalize mixL (xorL key nonce c xs) (List.replicate xs.length 0) j = ml at *
        generalize ks key nonce c j = kj at *
        go_wp2
        go_roundw
        case rel =>
          first
            | exact ⟨j + 1, by omega, by go_num, unhide fin⟩
            | ((repeat apply Exists.intro); refine ⟨⟨j + 1, by omega, ?_, unhide fin⟩, rfl⟩; go_num)
        case measure => simp [intOf]; omega
    · obtain rfl : j = n := by omega
      have ho := st.o
      rw [unhide HN] at ho
      have hm := mixL_all (xorL key nonce c xs) (List.replicate xs.length 0) (by simp [xorL_len])
      rw [List.length_replicate] at hm
      rw [hm] at ho
      have HO := hide ho
      have hbel := hide st.below
      clear st ho hm
      go_wp2
      go_ret
      refine ⟨_, rfl, ⟨xorL_isB _ _ _ _ (unhide HB), .inr ⟨w.heap.size + 1, j, [], ?_, by omega, unhide HO, by rw [xorL_len, ← unhide HN]; exact Nat.le_refl _⟩⟩, unhide hbel⟩
      rw [xorL_len, ← unhide HN]
      rfl
end Go.Proofs.YtggiijlgdpkkfaaDoor
