/- The specification's l04Xor: a stream put on bytes. -/
import Derived.Test.YtggiijlgdpkkfaaDoorApp
namespace Go.Proofs.YtggiijlgdpkkfaaDoor
open Go.RowKit
set_option maxHeartbeats 4000000
set_option maxRecDepth 20000
structure Ys (w : World) (b g : Nat) (R xs : List Int) (rest : List Value) (j : Nat) (W : World) : Prop where
  o : W.heap[g]? = some (rowObj 5 .u8 (mixL R xs j) rest)
  below : Below b w W
  gb : b ≤ g
theorem Ys.lt {w W : World} {b g j : Nat} {R xs : List Int} {rest : List Value} (h : Ys w b g R xs rest j W) : g < W.heap.size := (Array.getElem?_eq_some_iff.1 h.o).1
theorem Ys.go {w W W2 : World} {b g j : Nat} {R xs : List Int} {rest : List Value} (h : Ys w b g R xs rest j W) (hb : Below W.heap.size W W2) : Ys w b g R xs rest j W2 :=
  ⟨(hb.block g h.lt).trans h.o, h.below.trans (hb.mono (by have := h.lt; have := h.gb; omega)), h.gb⟩
theorem Ys.next {w W : World} {b g j : Nat} {R xs : List Int} {rest : List Value} (h : Ys w b g R xs rest j W) (hl : R.length = xs.length) (hj : j < xs.length) (n : Nat) :
    Ys w b g R xs rest (j + 1) (rowL (W.drewN n) g 5 .u8 ((mixL R xs j).set j (R.getD j 0)) rest) := by
  rw [mixL_succ _ _ _ hl hj]
  exact ⟨get_row _ _ _ _ _ _ h.lt, below_row _ _ _ _ _ _ (below_drewN h.below n) h.gb, h.gb⟩
theorem xor27 (key nonce : ByteArray) (hk : key.size = 32) (hnn : nonce.size = 12) (c : Int) (h0c : 0 ≤ c) (h1c : c ≤ 4294966271) (xs : List Int) (hn : xs.length ≤ 65536) (v : Value) (w : World) (hv : bytesV w v xs) :
    Calls Tryd.prog 25 #[.string key, .string nonce, .int .i64 c, v] w fun e w' => ∃ r, e = .returned r ∧ ownB w.heap.size w' r (xorL key nonce c xs) ∧ Below w.heap.size w w' := by
  have hvw := hide (hv.below ((Below.refl w.heap.size w).alloc (Nat.le_refl _) (.cells #[] 5)))
  have HB : Hid (isB xs) := by obtain ⟨_, _, _, h, _⟩ := hv; exact h
  clear hv
  obtain ⟨n, hnx⟩ : ∃ n, n = xs.length := ⟨_, rfl⟩
  have HN := hide hnx
  go_enter Tryd.func25, Tryd.ntmps25
  go_wp2_with (at_builtin; refine wpList_append_bytes _ rfl _ _ rfl w.heap.size 0 (.slice (some ⟨w.heap.size, 0, none⟩) 0 0) [] rfl (World.ownsRow_made w #[] 0 (Nat.le_refl _) (Nat.zero_le _) rfl) ⟨_, _, rfl⟩ v xs rfl (unhide hvw) (by omega) (by simp) ?_; intro g1 c1 w1 own1 gr1)
  have hb1 : Below w.heap.size w w1 := Below.grown ((Below.refl _ _).alloc (Nat.le_refl _) _) gr1 (by simp) (by simp [Value.ownBlock])
  rw [Nat.zero_add, List.nil_append] at own1
  obtain ⟨g, cap, rest, hval, hgb, hgl, hcap, hrow⟩ := own_rowB own1 ⟨_, _, rfl⟩
  obtain ⟨rfl, rfl⟩ : g1 = g ∧ c1 = cap := by simp at hval; exact hval
  have ST : Hid (Ys w w.heap.size g1 (xorL key nonce c xs) xs rest 0 w1) := hide ⟨by rw [mixL_zero]; exact hrow, hb1, hgb⟩
  rw [← hnx] at hcap ⊢
  have hRl := hide (xorL_len key nonce c xs)
  have HR := hide (xorL_at key nonce c xs)
  have HRB := hide (xorL_isB key nonce c xs (unhide HB))
  rw [← unhide HN] at hRl HR
  clear own1 gr1 hb1 hgb hgl hrow hval hvw
  have hnn2 : Hid (n ≤ 65536) := by rw [unhide HN]; exact hn
  clear hnx hn
  have nn := unhide hnn2
  generalize hR : xorL key nonce c xs = R at *
  have HRR := hide hR
  clear hR
  go_loopw [10] (fun i wr => ∃ q : Nat, 64 * q ≤ n + 63 ∧ i = .int .i64 ((64 * q : Nat) : Int) ∧ Ys w w.heap.size g1 R xs rest (min (64 * q) n) wr) (fun i _ => n + 64 - (intOf i).toNat)
  case atStart => exact ⟨0, by omega, rfl, by simpa using unhide ST⟩
  case round =>
    clear ST
    obtain ⟨q, hq, rfl, st⟩ := hrel
    by_cases hlt : 64 * q < n
    · have hmin : min (64 * q) n = 64 * q := by omega
      rw [hmin] at st
      have q1 : ((64 * q : Nat) : Int) < (n : Int) := by omega
      have q0 : (0 : Int) ≤ ((64 * q : Nat) : Int) := by omega
      have qd : ((64 * q : Nat) : Int) / 64 = (q : Int) := by omega
      have qq0 : (0 : Int) ≤ (q : Int) := by omega
      have qq1 : (q : Int) ≤ 1024 := by omega
      have hb := hide (block_any key nonce hk hnn (c + (q : Int)) wr)
      have SY := hide st
      obtain ⟨i, hi⟩ : ∃ i, i = 64 * q := ⟨_, rfl⟩
      rw [← hi] at q1 q0 qd
      have HI := hide hi
      rw [← hi] at hlt ⊢
      have HLT := hide hlt
      clear st hmin hq hlt hi
      go_wp2_with fail
      refine (unhide hb).mono ?_
      rintro e w2 ⟨rfl, hb2⟩
      have st2 := hide ((unhide SY).go hb2)
      rw [show strOfNums (outN (rndC (startW key nonce (c + (q : Int))) 10) (startW key nonce (c + (q : Int))) 16) = strOfNums (blkN key nonce (c + (q : Int))) from rfl]
      have HK : Hid (∀ j, i ≤ j → j < i + 64 → ks key nonce c j = (blkN key nonce (c + (q : Int))).getD (j - i) 0) := hide (fun j h1 h2 => by
        have := unhide HI
        unfold ks
        rw [show j / 64 = q by omega, show j % 64 = j - i by omega])
      have hBl := hide (blkN_len key nonce (c + (q : Int)))
      have hBB := hide (blkN_isB key nonce (c + (q : Int)))
      generalize blkN key nonce (c + (q : Int)) = B at *
      rw [← unhide HI] at st2
      clear hb2
      go_wp2
      go_loopw [12] (fun u wr => ∃ j : Nat, i ≤ j ∧ j ≤ i + 64 ∧ j ≤ n ∧ u = .int .i64 j ∧ Ys w w.heap.size g1 R xs rest j wr) (fun u _ => n - (intOf u).toNat)
      case atStart => exact ⟨i, by omega, by omega, by have := unhide HLT; omega, rfl, unhide st2⟩
      case round =>
        clear st2
        obtain ⟨j, hij, hji, hjn, rfl, st⟩ := hrel
        by_cases hjl : j < n
        · by_cases hj64 : j < i + 64
          · have a1 : (j : Int) < (n : Int) := by omega
            have a0 : (0 : Int) ≤ (j : Int) := by omega
            have a2 : (j : Int) < (i : Int) + 64 := by omega
            obtain ⟨d, hd⟩ : ∃ d, d = j - i := ⟨_, rfl⟩
            have a3 : (j : Int) - (i : Int) = (d : Int) := by omega
            have ix := index_str B (unhide hBB) d (by rw [unhide hBl]; omega)
            have hkj := unhide HK j hij hj64
            rw [← hd] at hkj
            have hml : (mixL R xs j).length = n := by rw [mixL_len _ _ _ (by rw [unhide hRl]; exact unhide HN), ← unhide HN]
            have hmj : (mixL R xs j).getD j 0 = xs.getD j 0 := mixL_at _ _ _ (by rw [unhide hRl]; exact unhide HN) (by rw [← unhide HN]; exact hjl)
            have hRj := unhide HR j hjl
            rw [hkj] at hRj
            have fin : Hid (∀ m, Ys w w.heap.size g1 R xs rest (j + 1) (rowL (wr.drewN m) g1 5 .u8 ((mixL R xs j).set j (R.getD j 0)) rest)) := hide (fun m => st.next (by rw [unhide hRl]; exact unhide HN) (by rw [← unhide HN]; exact hjl) m)
            rw [hRj, x8] at fin
            have hrow : wr = rowL (wr.drewN 0) g1 5 .u8 (mixL R xs j) rest := (row_same wr g1 5 .u8 _ rest st.o).symm
            have p0 : ∀ m, (rowL (wr.drewN m) g1 5 .u8 (mixL R xs j) rest).cell? ⟨g1, j, none⟩ = some (.int .u8 (xs.getD j 0)) := fun m => (cell_row (wr.drewN m) g1 5 .u8 (mixL R xs j) rest j (by omega) st.lt).trans (by rw [hmj])
            have p1 : ∀ m, (rowL (wr.drewN m) g1 5 .u8 (mixL R xs j) rest).frozen? ⟨g1, j, none⟩ = false := fun m => frozen_row _ _ _ _ _ _ _ st.lt
            have p2 : ∀ m v, (rowL (wr.drewN m) g1 5 .u8 (mixL R xs j) rest).setCell ⟨g1, j, none⟩ (.int .u8 v) = rowL (wr.drewN m) g1 5 .u8 ((mixL R xs j).set j v) rest := fun m v => set_row _ _ _ _ _ _ _ v (by omega) st.lt
            have D : ∀ m l, (rowL (wr.drewN m) g1 5 .u8 l rest).drew = rowL (wr.drewN (m + 1)) g1 5 .u8 l rest := fun m l => rfl
            obtain ⟨x0, x1⟩ := (unhide HB).at j
            obtain ⟨y0, y1⟩ := (unhide hBB).at d
            rw [hrow]
            have HJL := hide hjl
            have HJ := hide hj64
            have HIJ := hide hij
            clear hrow hd hml hmj hRj hkj st hjl hj64 hij hji hjn
            generalize mixL R xs j = ml at *
            generalize xs.getD j 0 = xj at *
            generalize B.getD d 0 = kj at *
            go_wp2
            go_region
            clear p0 p1 p2 D ix
            go_wp2
            go_roundw
            case rel =>
              have h1 := unhide HIJ
              have h2 := unhide HJ
              have h3 := unhide HJL
              first
                | exact ⟨j + 1, by omega, by omega, by omega, by go_num, unhide fin _⟩
                | ((repeat apply Exists.intro); refine ⟨⟨j + 1, by omega, by omega, by omega, ?_, unhide fin _⟩, rfl⟩; go_num)
            case measure => have h3 := unhide HJL; simp [intOf]; omega
          · obtain rfl : j = i + 64 := by omega
            have a1 : ((i + 64 : Nat) : Int) < (n : Int) := by omega
            have a2 : ((i + 64 : Nat) : Int) = (i : Int) + 64 := by omega
            have SY2 := hide st
            have HJL := hide hjl
            clear st hij hji hjn hjl hj64
            go_wp2
            go_roundw
            case rel =>
              have h1 := unhide HI
              have h2 := unhide HJL
              have hst : Ys w w.heap.size g1 R xs rest (min (64 * (q + 1)) n) wr := by rw [show min (64 * (q + 1)) n = i + 64 by omega]; exact unhide SY2
              first
                | exact ⟨q + 1, by omega, by go_num, hst⟩
                | ((repeat apply Exists.intro); refine ⟨⟨q + 1, by omega, ?_, hst⟩, rfl⟩; go_num)
            case measure => have h1 := unhide HI; have h2 := unhide HJL; simp [intOf]; omega
        · obtain rfl : j = n := by omega
          have a1 : ¬ ((j : Int) < (j : Int)) := by omega
          have SY2 := hide st
          have h9 := hide hji
          clear st hij hji hjn hjl
          go_wp2
          go_roundw
          case rel =>
            have h1 := unhide HI
            have h2 := unhide HLT
            have h3 := unhide h9
            have hst : Ys w w.heap.size g1 R xs rest (min (64 * (q + 1)) j) wr := by rw [show min (64 * (q + 1)) j = j by omega]; exact unhide SY2
            first
              | exact ⟨q + 1, by omega, by go_num, hst⟩
              | ((repeat apply Exists.intro); refine ⟨⟨q + 1, by omega, ?_, hst⟩, rfl⟩; go_num)
          case measure => have h1 := unhide HI; have h2 := unhide HLT; simp [intOf]; omega
    · have hmin : min (64 * q) n = n := by omega
      rw [hmin] at st
      have ho := st.o
      rw [show mixL R xs n = R by rw [unhide HN]; exact mixL_all _ _ (by rw [unhide hRl]; exact unhide HN)] at ho
      have q1 : (n : Int) ≤ ((64 * q : Nat) : Int) := by omega
      have HO := hide ho
      have hbel := hide st.below
      have hgb := hide st.gb
      generalize 64 * q = i at *
      clear st ho hmin hlt hq
      go_wp2
      go_ret
      rw [unhide HRR]
      refine ⟨_, rfl, ⟨unhide HRB, .inr ⟨g1, c1, rest, ?_, unhide hgb, unhide HO, by rw [unhide hRl]; exact hcap⟩⟩, unhide hbel⟩
      rw [unhide hRl]
      rfl
end Go.Proofs.YtggiijlgdpkkfaaDoor
