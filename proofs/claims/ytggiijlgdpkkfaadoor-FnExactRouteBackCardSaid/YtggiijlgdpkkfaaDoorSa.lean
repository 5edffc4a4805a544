/- The program's words out of bytes, and the sixteen words that a stream begins with. -/
import Derived.Test.YtggiijlgdpkkfaaDoorBlk
import Derived.Test.YtggiijlgdpkkfaaDoorMark
namespace Go.Proofs.YtggiijlgdpkkfaaDoor
open Go.RowKit
set_option maxHeartbeats 4000000
set_option maxRecDepth 20000
theorem word36 (p q r s : Int) (hp : 0 ≤ p ∧ p < 256) (hq : 0 ≤ q ∧ q < 256) (hr : 0 ≤ r ∧ r < 256) (hs : 0 ≤ s ∧ s < 256) (w : World) :
    Calls Tryd.prog 36 #[.agg #[.int .u8 p, .int .u8 q, .int .u8 r, .int .u8 s]] w fun e w' => e = .returned (.int .u32 (wi (le4 p q r s))) ∧ w' = w.alloc (.cells #[.int .u8 p, .int .u8 q, .int .u8 r, .int .u8 s] 61) := by
  have E := hide (le4_or p q r s hp hq hr hs)
  obtain ⟨x0, y0⟩ := hp
  obtain ⟨x1, y1⟩ := hq
  obtain ⟨x2, y2⟩ := hr
  obtain ⟨x3, y3⟩ := hs
  go_enter Tryd.func36, Tryd.ntmps36
  go_wp2
  go_ret
  exact ⟨ret_w (unhide E), rfl⟩
theorem cell_old' (W : World) (o : Obj) (n i : Nat) (h : n < W.heap.size) : (W.alloc o).cell? ⟨n, i, none⟩ = W.cell? ⟨n, i, none⟩ := by
  unfold World.cell?
  rw [show (⟨n, i, none⟩ : Addr).block = n from rfl, Below.heap_alloc _ _ _ h]
theorem byteI_bt (s : ByteArray) (i : Nat) : (byteI s).getD i 0 = bt s i := by
  unfold byteI bt
  rw [List.getD_eq_getElem?_getD, List.getElem?_map, List.getD_eq_getElem?_getD]
  cases s.data.toList[i]? <;> rfl
def zObj : Obj := .cells (Array.replicate 16 (.int .u32 0)) 53 (0, 0)
structure Sa (w : World) (b gk gn : Nat) (key nonce : ByteArray) (S : List W32) (W : World) : Prop where
  r : W.heap[b]? = some zObj
  s : W.heap[b + 1]? = some (wObj S)
  k : ∀ i, i < 32 → W.cell? ⟨gk, i, none⟩ = some (.int .u8 (bt key i))
  n : ∀ i, i < 12 → W.cell? ⟨gn, i, none⟩ = some (.int .u8 (bt nonce i))
  below : Below b w W
  gk : b + 1 < gk ∧ gk < W.heap.size
  gn : b + 1 < gn ∧ gn < W.heap.size
theorem Sa.lt {w W : World} {b gk gn : Nat} {key nonce : ByteArray} {S : List W32} (h : Sa w b gk gn key nonce S W) : b + 1 < W.heap.size := (Array.getElem?_eq_some_iff.1 h.s).1
theorem Sa.alloc {w W : World} {b gk gn : Nat} {key nonce : ByteArray} {S : List W32} (h : Sa w b gk gn key nonce S W) (o : Obj) : Sa w b gk gn key nonce S (W.alloc o) :=
  ⟨by rw [Below.heap_alloc _ _ _ (by have := h.lt; omega)]; exact h.r, by rw [Below.heap_alloc _ _ _ h.lt]; exact h.s,
   fun i hi => by rw [cell_old' W o gk i h.gk.2]; exact h.k i hi, fun i hi => by rw [cell_old' W o gn i h.gn.2]; exact h.n i hi,
   h.below.alloc (by have := h.lt; omega) o, ⟨h.gk.1, by have := h.gk.2; simp; omega⟩, ⟨h.gn.1, by have := h.gn.2; simp; omega⟩⟩
theorem Sa.put {w W : World} {b gk gn : Nat} {key nonce : ByteArray} {S : List W32} (h : Sa w b gk gn key nonce S W) (S' : List W32) (n : Nat) : Sa w b gk gn key nonce S' (rowW (W.drewN n) (b + 1) 53 S' []) :=
  ⟨by rw [get_rowW_other _ _ _ _ _ _ (by omega)]; exact h.r, get_rowW _ _ _ _ _ h.lt,
   fun i hi => (cell_rowW_other _ _ _ _ _ _ _ (by have := h.gk.1; omega)).trans (h.k i hi), fun i hi => (cell_rowW_other _ _ _ _ _ _ _ (by have := h.gn.1; omega)).trans (h.n i hi),
   below_rowW _ _ _ _ _ (below_drewN h.below n) (by omega), ⟨h.gk.1, by rw [size_rowW]; exact h.gk.2⟩, ⟨h.gn.1, by rw [size_rowW]; exact h.gn.2⟩⟩
/-- the words as the first loop lays them -/
def kW (key : ByteArray) (i : Nat) : List W32 := consts ++ textW key i ++ List.replicate (12 - i) 0
def nW (key nonce : ByteArray) (i : Nat) : List W32 := consts ++ textW key 8 ++ [0] ++ textW nonce i ++ List.replicate (3 - i) 0
theorem textW_len (t : ByteArray) (n : Nat) : (textW t n).length = n := by simp [textW]
theorem kW_len (key : ByteArray) (i : Nat) (h : i ≤ 8) : (kW key i).length = 16 := by simp [kW, textW_len, consts]; omega
theorem nW_len (key nonce : ByteArray) (i : Nat) (h : i ≤ 3) : (nW key nonce i).length = 16 := by simp [nW, textW_len, consts]; omega
theorem set_mid (a b : List W32) (x y : W32) (n : Nat) (h : a.length = n) : (a ++ x :: b).set n y = a ++ y :: b := by
  subst h; rw [List.set_append_right _ _ (Nat.le_refl _)]; simp
theorem kW_succ (key : ByteArray) (i : Nat) (h : i < 8) : (kW key i).set (4 + i) (wordAt key (4 * i)) = kW key (i + 1) := by
  unfold kW
  rw [show 12 - i = (12 - (i + 1)) + 1 by omega, List.replicate_succ, set_mid _ _ _ _ _ (by simp [textW_len, consts]; omega), textW_succ key i]
  simp
theorem nW_succ (key nonce : ByteArray) (i : Nat) (h : i < 3) : (nW key nonce i).set (13 + i) (wordAt nonce (4 * i)) = nW key nonce (i + 1) := by
  unfold nW
  rw [show 3 - i = (3 - (i + 1)) + 1 by omega, List.replicate_succ, set_mid _ _ _ _ _ (by simp [textW_len, consts]; omega), textW_succ nonce i]
  simp
theorem kW_all (key nonce : ByteArray) : kW key 8 = nW key nonce 0 := by
  unfold kW nW
  simp [textW, List.replicate]
theorem nW_all (key nonce : ByteArray) : nW key nonce 3 = startW key nonce 0 := by
  unfold nW startW
  simp
theorem start_set (key nonce : ByteArray) (c : Int) : (startW key nonce 0).set 12 (BitVec.ofInt 32 c) = startW key nonce c := by
  unfold startW
  rw [List.append_assoc, List.singleton_append, set_mid _ _ _ _ _ (by simp [textW_len, consts])]
  simp
theorem sz2 (W : World) (o : Obj) : (W.drew.alloc o).heap.size = W.heap.size + 1 := by
  show (W.heap.push o).size = _
  simp
theorem szd (W : World) : W.drew.heap.size = W.heap.size := rfl
theorem sa_made (w : World) (A B : Obj) (key nonce : ByteArray) (hk : key.size = 32) (hn : nonce.size = 12) (hA : A = zObj) (hB : B = wObj (kW key 0)) (r1 r2 : List Value) (W2 W3 : World)
    (h2 : W2 = rowM (((w.alloc A).alloc B).drew.alloc (.cells #[] 5)) ((w.alloc A).alloc B).heap.size 5 .u8 (byteI key) r1) (h3 : W3 = rowM (W2.drew.alloc (.cells #[] 5)) W2.heap.size 5 .u8 (byteI nonce) r2) :
    Sa w w.heap.size (w.heap.size + 1 + 1) (w.heap.size + 1 + 1 + 1) key nonce (kW key 0) W3 := by
  have e1 : ((w.alloc A).alloc B).heap.size = w.heap.size + 1 + 1 := by simp
  have e2 : W2.heap.size = w.heap.size + 1 + 1 + 1 := by rw [h2, size_rowM, sz2, e1]
  have e3 : W3.heap.size = w.heap.size + 1 + 1 + 1 + 1 := by rw [h3, size_rowM, sz2, e2]
  have g2 : ∀ n, n ≠ w.heap.size + 1 + 1 → n < w.heap.size + 1 + 1 → W2.heap[n]? = ((w.alloc A).alloc B).heap[n]? := fun n h h' => by
    rw [h2, get_rowM_other _ _ _ _ _ _ _ (by omega), Below.heap_alloc _ _ _ (by rw [szd]; omega)]; rfl
  have g3 : ∀ n, n < w.heap.size + 1 + 1 + 1 → W3.heap[n]? = W2.heap[n]? := fun n h => by
    rw [h3, get_rowM_other _ _ _ _ _ _ _ (by omega), Below.heap_alloc _ _ _ (by rw [szd]; omega)]; rfl
  have c2 : ∀ i, i < 32 → W2.cell? ⟨w.heap.size + 1 + 1, i, none⟩ = some (.int .u8 (bt key i)) := fun i hi => by
    rw [h2, e1, cell_rowM _ _ _ _ _ _ i (by rw [byteI_len]; omega) (by rw [sz2]; omega), byteI_bt]
  refine ⟨?_, ?_, ?_, ?_, ?_, ⟨by omega, by omega⟩, ⟨by omega, by omega⟩⟩
  · rw [g3 _ (by omega), g2 _ (by omega) (by omega), Below.heap_alloc _ _ _ (by simp), heap_at _ _ _ rfl, hA]
  · rw [g3 _ (by omega), g2 _ (by omega) (by omega), heap_at _ _ _ (by simp), hB]
  · intro i hi
    rw [← c2 i hi]
    unfold World.cell?
    rw [show (⟨w.heap.size + 1 + 1, i, none⟩ : Addr).block = w.heap.size + 1 + 1 from rfl, g3 _ (by omega)]
  · intro i hi
    rw [h3, e2, cell_rowM _ _ _ _ _ _ i (by rw [byteI_len]; omega) (by rw [sz2]; omega), byteI_bt]
  · rw [h3]
    have b1 : Below w.heap.size w ((w.alloc A).alloc B) := ((Below.refl _ _).alloc (Nat.le_refl _) _).alloc (by simp) _
    have b2 : Below w.heap.size w W2 := by
      rw [h2]
      exact below_rowM _ _ _ _ _ _ ((below_drewN b1 1).alloc (by show w.heap.size ≤ ((w.alloc A).alloc B).heap.size; omega) _) (by omega)
    exact below_rowM _ _ _ _ _ _ ((below_drewN b2 1).alloc (by show w.heap.size ≤ W2.heap.size; omega) _) (by omega)
end Go.Proofs.YtggiijlgdpkkfaaDoor
