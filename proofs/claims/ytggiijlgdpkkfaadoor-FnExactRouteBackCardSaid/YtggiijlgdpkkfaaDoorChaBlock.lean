/- The specification's block of ChaCha20, as a function on words and bytes. -/
import Derived.Test.YtggiijlgdpkkfaaDoorWords
import Derived.Laws.AppendOwn
import Derived.Deep.AppendLies
import Derived.OwnWalk
namespace Go.Proofs.YtggiijlgdpkkfaaDoor
open Go.RowKit
set_option maxHeartbeats 8000000
set_option maxRecDepth 20000
theorem info41 : (Tryd.prog.info? 51).map (fun i => (i.zero, i.size, i.bytes)) = some (some (.int .u32 0), 1, 4) := by kernel_rfl
def consts : List W32 := [0x61707865, 0x3320646e, 0x79622d32, 0x6b206574]
def wordAt (t : ByteArray) (i : Nat) : W32 := le4 (bt t i) (bt t (i + 1)) (bt t (i + 2)) (bt t (i + 3))
def textW (t : ByteArray) (n : Nat) : List W32 := (List.range n).map fun j => wordAt t (4 * j)
theorem textW_succ (t : ByteArray) (n : Nat) : textW t (n + 1) = textW t n ++ [wordAt t (4 * n)] := by
  unfold textW; rw [List.range_succ, List.map_append]; rfl
/-- the sixteen words that a block begins with -/
def startW (key nonce : ByteArray) (c : Int) : List W32 := consts ++ textW key 8 ++ [BitVec.ofInt 32 c] ++ textW nonce 3
theorem startW_len (key nonce : ByteArray) (c : Int) : (startW key nonce c).length = 16 := by simp [startW, consts, textW]
theorem map_snoc (xs : List W32) (x : W32) : (xs ++ [x]).map wV = xs.map wV ++ [wV x] := by simp
theorem own_rowW {w : World} {base n : Nat} {v : Value} {ws : List W32} (h : w.ownsRow base 51 1 v n (ws.map wV)) (hn : 0 < n) :
    ∃ g cap rest, v = .slice (some ⟨g, 0, none⟩) n cap ∧ base ≤ g ∧ g < w.heap.size ∧ n ≤ cap ∧ w.heap[g]? = some (.cells (ws.map wV ++ rest).toArray 51 (0, 0)) := by
  rcases h.2 with ⟨_, h0⟩ | ⟨g, cap, cur, hv, hb, hg, hc, _, _, ht⟩
  · omega
  · refine ⟨g, cap, cur.toList.drop n, hv, hb, (Array.getElem?_eq_some_iff.1 hg).1, hc, ?_⟩
    rw [hg]
    congr 2
    rw [← ht, Nat.mul_one, List.take_append_drop]
theorem row_newsW {w : World} {b : Nat} {xs : List W32} {rest : List Value} (h : w.heap[b]? = some (.cells (xs.map wV ++ rest).toArray 51 (0, 0))) : ∀ j u, (xs.map wV)[j]? = some u → w.cell? ((⟨b, 0, none⟩ : Addr).add j) = some u := by
  intro j u hj
  rw [Addr.add_lit, Nat.zero_add, Go.cell_of_row _ _ _ _ _ _ h]
  have hl : j < (xs.map wV).length := by
    rcases Nat.lt_or_ge j (xs.map wV).length with h | h
    · exact h
    · rw [List.getElem?_eq_none h] at hj; cases hj
  rw [List.getElem?_toArray, List.getElem?_append_left hl, hj]
theorem row_cellW {w : World} {b : Nat} {xs : List W32} {rest : List Value} (h : w.heap[b]? = some (.cells (xs.map wV ++ rest).toArray 51 (0, 0))) (i : Nat) (hi : i < xs.length) : w.cell? ⟨b, i, none⟩ = some (.int .u32 (wi (gW xs i))) := by
  rw [← rowW_same w b 51 xs rest h]
  exact cell_rowW _ _ _ _ _ _ hi (Array.getElem?_eq_some_iff.1 h).1
def colQ (s : List W32) : Nat → List W32
  | 0 => s
  | k + 1 => qL (colQ s k) k (k + 4) (k + 8) (k + 12)
def diaQ (s : List W32) : Nat → List W32
  | 0 => s
  | k + 1 => qL (diaQ s k) k ((k + 1) % 4 + 4) ((k + 2) % 4 + 8) ((k + 3) % 4 + 12)
def rndC (s : List W32) : Nat → List W32
  | 0 => s
  | r + 1 => diaQ (colQ (rndC s r) 4) 4
theorem colQ_len (s : List W32) : ∀ k, (colQ s k).length = s.length
  | 0 => rfl
  | k + 1 => by rw [colQ, qL_len, colQ_len]
theorem diaQ_len (s : List W32) : ∀ k, (diaQ s k).length = s.length
  | 0 => rfl
  | k + 1 => by rw [diaQ, qL_len, diaQ_len]
theorem rndC_len (s : List W32) : ∀ r, (rndC s r).length = s.length
  | 0 => rfl
  | r + 1 => by rw [rndC, diaQ_len, colQ_len, rndC_len]
theorem info5 : (Tryd.prog.info? 5).map (fun i => (i.zero, i.size, i.bytes)) = some (some (.int .u8 0), 1, 1) := by kernel_rfl
/-- a word's four bytes, the lowest first -/
def leB (x : W32) : List Int := [wi x % 256, wi x / 256 % 256, wi x / 65536 % 256, wi x / 16777216]
def outN (f t : List W32) : Nat → List Int
  | 0 => []
  | k + 1 => outN f t k ++ leB (gW f k + gW t k)
theorem outN_succ (f t : List W32) (k : Nat) : outN f t (k + 1) = outN f t k ++ leB (gW f k + gW t k) := rfl
theorem outN_len (f t : List W32) : ∀ k, (outN f t k).length = 4 * k
  | 0 => rfl
  | k + 1 => by rw [outN, List.length_append, outN_len]; rfl
theorem bytes_str {w : World} {base n : Nat} {v : Value} {xs : List Int} (h : w.ownsRow base 5 1 v n (xs.map (Value.int .u8))) (hn : xs.length = n) : (convert 44 9 v).run Tryd.prog w = .ok (.string (strOfNums xs)) w := by
  rcases h.2 with ⟨rfl, h0⟩ | ⟨g, cap, cur, rfl, hb, hg, h1, h2, h3, ht⟩
  · obtain rfl : xs = [] := List.length_eq_zero_iff.1 (by omega)
    exact run_convert_bytes_nil _ 44 5 Tryd.underlying44 Tryd.underlying5 0 0 9 Tryd.underlying9
  · refine run_convert_bytes_arg _ 44 5 Tryd.underlying44 Tryd.underlying5 g 0 n cap xs hn ?_ 9 Tryd.underlying9
    intro i hi
    rw [Nat.zero_add, Go.cell_of_row _ _ _ _ _ _ hg, ← Array.getElem?_toList]
    have e : (cur.toList.take (n * 1))[i]? = (xs.map (Value.int .u8))[i]? := by rw [ht]
    rw [List.getElem?_take_of_lt (by omega)] at e
    rw [e, List.getElem?_map, List.getD_eq_getElem?_getD, List.getElem?_eq_getElem (by omega)]
    rfl
theorem block_any (key nonce : ByteArray) (hk : key.size = 32) (hn : nonce.size = 12) (c : Int) (w : World) :
    Calls Tryd.prog 31 #[.string key, .string nonce, .int .i64 c] w fun e w' => e = .returned (.string (strOfNums (outN (rndC (startW key nonce c) 10) (startW key nonce c) 16))) ∧ Below w.heap.size w w' := by
  obtain ⟨i0, hi0, hz0, hz1, hz2⟩ := info_parts info41
  obtain ⟨k0, hk0, kz0, kz1, kz2⟩ := info_parts info5
  have hk2 : key.size ≤ 65536 := by omega
  have hn2 : nonce.size ≤ 65536 := by omega
  go_enter Tryd.func31, Tryd.ntmps31
  go_wp2
  go_loopw [7, 8] (fun o i wr => ∃ j : Nat, j ≤ 8 ∧ i = .int .i64 ((4 * j : Nat) : Int) ∧ wr.ownsRow w.heap.size 51 1 o (4 + j) ((consts ++ textW key j).map wV) ∧ Below w.heap.size w wr) (fun _ i _ => 32 - (intOf i).toNat)
  case atStart => exact ⟨0, by omega, rfl, ⟨rfl, .inr ⟨w.heap.size, 4, _, rfl, Nat.le_refl _, heap_alloc_new w _, by omega, by unfold maxLen; omega, rfl, rfl⟩⟩, (Below.refl _ _).alloc (Nat.le_refl _) _⟩
  case round =>
    obtain ⟨j, hj, rfl, hown, hbl⟩ := hrel
    by_cases hlt : j < 8
    · have E := hide (textW_succ key j)
      have q1 : ((4 * j : Nat) : Int) < 32 := by omega
      generalize hm : 4 * j = m at *
      have HM := hide hm
      go_wp2_with fail
      refine (word_any key m (by omega) hk2 wr).mono ?_
      rintro e w1 ⟨rfl, k, rfl⟩
      rw [show le4 (bt key m) (bt key (m + 1)) (bt key (m + 2)) (bt key (m + 3)) = wordAt key m from rfl]
      have ho2 : (wr.drewN k).ownsRow w.heap.size 51 1 u7 (4 + j) ((consts ++ textW key j).map wV) := hown
      have hb2 : Below w.heap.size w (wr.drewN k) := below_drewN hbl k
      generalize wr.drewN k = w2 at *
      generalize wordAt key m = x at *
      clear hown hbl hm
      go_wp2_with (at_builtin; refine wpList_append_lies _ rfl _ _ 64 rfl w.heap.size 51 i0 (.int .u32 0) 1 4 Tryd.underlying64 hi0 hz0 hz1 hz2 rfl (by omega) u7 (4 + j) ((consts ++ textW key j).map wV) rfl (ho2.alloc _)
                                        ⟨w2.heap.size, 0, none⟩ 1 1 [wV x] rfl rfl (World.news_of_block (cs := #[wV x]) (t := 51) (fr := (0, 0)) (heap_alloc_new w2 _)) (by simp [Value.oneCell'])
                                        (by omega) (by unfold maxLen; omega) (by omega) (by have := hb2.size; simp; omega) (w2.heap.size + 1) (by simp) ?_; intro gg cp w3 hown3 hgrow3 hat hltg)
      go_wp2
      go_roundw
      case rel =>
        refine ⟨j + 1, by omega, by have := unhide HM; go_num, ?_, Below.grown (hb2.alloc hb2.size _) hgrow3 (by have := hb2.size; simp; omega) fun k hk => (ho2.lt k hk).1⟩
        rw [unhide E, ← List.append_assoc, map_snoc]
        exact hown3
      case measure => have := unhide HM; simp [intOf]; omega
    · obtain rfl : j = 8 := by omega
      have ec := w_of' c
      generalize hx : BitVec.ofInt 32 c = x at *
      have HX := hide hx
      have hl1 : Hid (consts ++ textW key 8 ++ [x] = consts ++ textW key 8 ++ [x]) := rfl
      have HBS := hbl.size
      clear hx
      go_wp2_with (at_builtin; refine wpList_append_lies _ rfl _ _ 64 rfl w.heap.size 51 i0 (.int .u32 0) 1 4 Tryd.underlying64 hi0 hz0 hz1 hz2 rfl (by omega) u7 (4 + 8) ((consts ++ textW key 8).map wV) rfl (hown.alloc _)
                                        ⟨wr.heap.size, 0, none⟩ 1 1 [wV x] rfl rfl (World.news_of_block (cs := #[wV x]) (t := 51) (fr := (0, 0)) (heap_alloc_new wr _)) (by simp [Value.oneCell'])
                                        (by omega) (by unfold maxLen; omega) (by omega) (by have := HBS; simp; omega) (wr.heap.size + 1) (by simp) ?_; intro g3 c3 w3 own3 gr3 at3 lt3)
      have hb3 : Below w.heap.size w w3 := Below.grown (hbl.alloc hbl.size _) gr3 (by simp; omega) fun k hk => (hown.lt k hk).1
      rw [← map_snoc] at own3
      generalize hS : consts ++ textW key 8 ++ [x] = S at *
      have HS := hide hS
      clear hS hown gr3 at3 lt3 hbl hl1 HBS ec
      go_wp2
      go_loopw [7, 9] (fun o i wr2 => ∃ j : Nat, j ≤ 3 ∧ i = .int .i64 ((4 * j : Nat) : Int) ∧ wr2.ownsRow w.heap.size 51 1 o (13 + j) ((S ++ textW nonce j).map wV) ∧ Below w.heap.size w wr2) (fun _ i _ => 12 - (intOf i).toNat)
      case atStart => exact ⟨0, by omega, rfl, by simpa [textW] using own3, hb3⟩
      case round =>
        clear own3 hb3
        obtain ⟨j, hj, rfl, hown, hbl⟩ := hrel
        by_cases hlt : j < 3
        · have E := hide (textW_succ nonce j)
          have q1 : ((4 * j : Nat) : Int) < 12 := by omega
          generalize hm : 4 * j = m at *
          have HM := hide hm
          go_wp2_with fail
          refine (word_any nonce m (by omega) hn2 wr).mono ?_
          rintro e w1 ⟨rfl, k, rfl⟩
          rw [show le4 (bt nonce m) (bt nonce (m + 1)) (bt nonce (m + 2)) (bt nonce (m + 3)) = wordAt nonce m from rfl]
          have ho2 : (wr.drewN k).ownsRow w.heap.size 51 1 u7 (13 + j) ((S ++ textW nonce j).map wV) := hown
          have hb2 : Below w.heap.size w (wr.drewN k) := below_drewN hbl k
          have HBS := hb2.size
          generalize wr.drewN k = w2 at *
          generalize wordAt nonce m = y at *
          clear hown hbl hm
          go_wp2_with (at_builtin; refine wpList_append_lies _ rfl _ _ 64 rfl w.heap.size 51 i0 (.int .u32 0) 1 4 Tryd.underlying64 hi0 hz0 hz1 hz2 rfl (by omega) u7 (13 + j) ((S ++ textW nonce j).map wV) rfl (ho2.alloc _)
                                        ⟨w2.heap.size, 0, none⟩ 1 1 [wV y] rfl rfl (World.news_of_block (cs := #[wV y]) (t := 51) (fr := (0, 0)) (heap_alloc_new w2 _)) (by simp [Value.oneCell'])
                                        (by omega) (by unfold maxLen; omega) (by omega) (by have := HBS; simp; omega) (w2.heap.size + 1) (by simp) ?_; intro gg cp w4 hown4 hgrow4 hat hltg)
          go_wp2
          go_roundw
          case rel =>
            refine ⟨j + 1, by omega, by have := unhide HM; go_num, ?_, Below.grown (hb2.alloc hb2.size _) hgrow4 (by have := hb2.size; simp; omega) fun k hk => (ho2.lt k hk).1⟩
            rw [unhide E, ← List.append_assoc, map_snoc]
            exact hown4
          case measure => have := unhide HM; simp [intOf]; omega
        · obtain rfl : j = 3 := by omega
          have hT : Hid (startW key nonce c = S ++ textW nonce 3) := by rw [← unhide HS, ← unhide HX]; rfl
          have hTl : (S ++ textW nonce 3).length = 16 := by rw [← unhide hT]; exact startW_len _ _ _
          generalize S ++ textW nonce 3 = T at *
          obtain ⟨g, cap, r1, rfl, hgb, hgl, hgc, hgr⟩ := own_rowW hown (by omega)
          have hgr' : (wr.alloc (.cells #[] 51)).heap[g]? = some (.cells (T.map wV ++ r1).toArray 51 (0, 0)) := by rw [Below.heap_alloc _ _ _ hgl]; exact hgr
          have HBS := hbl.size
          clear hown
          go_wp2_with (at_builtin; refine wpList_append_lies _ rfl _ _ 64 rfl wr.heap.size 51 i0 (.int .u32 0) 1 4 Tryd.underlying64 hi0 hz0 hz1 hz2 rfl (by omega) (.slice (some ⟨wr.heap.size, 0, none⟩) 0 0) 0 [] rfl (World.ownsRow_made wr #[] 0 (Nat.le_refl _) (Nat.zero_le _) rfl)
                                        ⟨g, 0, none⟩ 16 cap (T.map wV) rfl (by simp [hTl]) (row_newsW hgr') (fun u hu => by obtain ⟨y, _, rfl⟩ := List.mem_map.1 hu; rfl)
                                        (by omega) (by unfold maxLen; omega) (by omega) (by simp) (wr.heap.size + 1) (by simp) ?_; intro g5 c5 w5 own5 gr5 at5 lt5)
          have hb5 : Below wr.heap.size wr w5 := Below.grown ((Below.refl _ _).alloc (Nat.le_refl _) _) gr5 (by simp) (by simp [Value.ownBlock])
          have hb5w := hide (hbl.trans (hb5.mono hbl.size))
          rw [Nat.zero_add, List.nil_append] at own5
          obtain ⟨g6, c6, r2, hv6, hg6b, hg6l, _, hg6⟩ := own_rowW own5 (by omega)
          obtain ⟨rfl, rfl⟩ : g6 = g5 ∧ c6 = c5 := by simp at hv6; exact ⟨hv6.1.symm, hv6.2.symm⟩
          have hgT : Hid (w5.heap[g]? = some (.cells (T.map wV ++ r1).toArray 51 (0, 0))) := hide ((hb5.block g hgl).trans hgr)
          have hge : Hid (w.heap.size ≤ g6 ∧ g ≠ g6 ∧ g6 < w5.heap.size) := ⟨by omega, by omega, hg6l⟩
          have hw5 : w5 = rowW (w5.drewN 0) g6 51 T r2 := (rowW_same w5 g6 51 T r2 hg6).symm
          rw [hw5]
          have HTl := hide hTl
          clear hw5 hg6 own5 gr5 at5 lt5 hv6 hg6b hg6l hgr hgr' hgl hgb hb5 hbl HBS hTl
          go_loopw [11] (fun i wr => ∃ (r n : Nat), r ≤ 10 ∧ i = .int .i64 r ∧ wr = rowW (w5.drewN n) g6 51 (rndC T r) r2) (fun i _ => 10 - (intOf i).toNat)
          case atStart => exact ⟨0, 0, by omega, rfl, rfl⟩
          case round =>
            obtain ⟨r, n, hr, rfl, rfl⟩ := hrel
            by_cases hlt : r < 10
            · have hY : Hid (rndC T (r + 1) = diaQ (colQ (rndC T r) 4) 4) := rfl
              have HYl := hide ((rndC_len T r).trans (unhide HTl))
              generalize rndC T r = Y at *
              have qr : (r : Int) < 10 := by omega
              go_wp2
              go_loopw [12] (fun i wr => ∃ (k n : Nat), k ≤ 4 ∧ i = .int .i64 k ∧ wr = rowW (w5.drewN n) g6 51 (colQ Y k) r2) (fun i _ => 4 - (intOf i).toNat)
              case atStart => exact ⟨0, n, by omega, rfl, rfl⟩
              case round =>
                obtain ⟨k, n2, hk4, rfl, rfl⟩ := hrel
                by_cases hlt4 : k < 4
                · have hq := quarter_any w5 g6 16 (colQ Y k) r2 c6 k (k + 4) (k + 8) (k + 12) n2 (unhide hge).2.2 ((colQ_len Y k).trans (unhide HYl)) (by omega) (by omega) (by omega) (by omega)
                  rw [show ((k + 4 : Nat) : Int) = (k : Int) + 4 by omega, show ((k + 8 : Nat) : Int) = (k : Int) + 8 by omega, show ((k + 12 : Nat) : Int) = (k : Int) + 12 by omega, show qL (colQ Y k) k (k + 4) (k + 8) (k + 12) = colQ Y (k + 1) from rfl] at hq
                  have HQ := hide hq
                  have qk : (k : Int) < 4 := by omega
                  clear hq
                  go_wp2_with fail
                  refine (unhide HQ).mono ?_
                  rintro e w6 ⟨rfl, n3, rfl⟩
                  go_wp2
                  go_roundw
                  case rel => exact ⟨k + 1, n3, by omega, by go_num, rfl⟩
                  case measure => simp [intOf]; omega
                · obtain rfl : k = 4 := by omega
                  have HZl := hide ((colQ_len Y 4).trans (unhide HYl))
                  generalize colQ Y 4 = Z at *
                  go_wp2
                  go_loopw [13] (fun i wr => ∃ (k n : Nat), k ≤ 4 ∧ i = .int .i64 k ∧ wr = rowW (w5.drewN n) g6 51 (diaQ Z k) r2) (fun i _ => 4 - (intOf i).toNat)
                  case atStart => exact ⟨0, n2, by omega, rfl, rfl⟩
                  case round =>
                    obtain ⟨k, n2, hk4, rfl, rfl⟩ := hrel
                    by_cases hlt4 : k < 4
                    · have hq := quarter_any w5 g6 16 (diaQ Z k) r2 c6 k ((k + 1) % 4 + 4) ((k + 2) % 4 + 8) ((k + 3) % 4 + 12) n2 (unhide hge).2.2 ((diaQ_len Z k).trans (unhide HZl)) (by omega) (by omega) (by omega) (by omega)
                      rw [show (((k + 1) % 4 + 4 : Nat) : Int) = ((k : Int) + 1) % 4 + 4 by omega, show (((k + 2) % 4 + 8 : Nat) : Int) = ((k : Int) + 2) % 4 + 8 by omega, show (((k + 3) % 4 + 12 : Nat) : Int) = ((k : Int) + 3) % 4 + 12 by omega, show qL (diaQ Z k) k ((k + 1) % 4 + 4) ((k + 2) % 4 + 8) ((k + 3) % 4 + 12) = diaQ Z (k + 1) from rfl] at hq
                      have HQ := hide hq
                      have qk : (k : Int) < 4 := by omega
                      clear hq
                      go_wp2_with fail
                      refine (unhide HQ).mono ?_
                      rintro e w6 ⟨rfl, n3, rfl⟩
                      go_wp2
                      go_roundw
                      case rel => refine ⟨_, _, _, _, _, _, _, _, _, _, _, _, _, _, _, _, _, _, _, _, ⟨k + 1, n3, by omega, ?_, rfl⟩, rfl⟩; go_num
                      case measure => simp [intOf]; omega
                    · obtain rfl : k = 4 := by omega
                      go_wp2
                      go_roundw
                      case rel => exact ⟨r + 1, n2, by omega, by go_num, by rw [unhide hY]⟩
                      case measure => simp [intOf]; omega
            · obtain rfl : r = 10 := by omega
              have HFl := hide ((rndC_len T 10).trans (unhide HTl))
              have HF : Hid (rndC T 10 = rndC T 10) := rfl
              generalize hF : rndC T 10 = F at *
              have HF2 := hide hF
              clear hF HF
              have hX6 : (rowW (w5.drewN n) g6 51 F r2).heap[g6]? = some (.cells (F.map wV ++ r2).toArray 51 (0, 0)) := get_rowW (w5.drewN n) g6 51 F r2 (unhide hge).2.2
              have hXg : (rowW (w5.drewN n) g6 51 F r2).heap[g]? = some (.cells (T.map wV ++ r1).toArray 51 (0, 0)) := (get_rowW_other (w5.drewN n) g6 51 F r2 g (unhide hge).2.1).trans (unhide hgT)
              have hgX : Hid (g < (rowW (w5.drewN n) g6 51 F r2).heap.size) := (Array.getElem?_eq_some_iff.1 hXg).1
              have hXb : Hid (Below w.heap.size w (rowW (w5.drewN n) g6 51 F r2)) := below_rowW _ _ _ _ _ (below_drewN (unhide hb5w) n) (unhide hge).1
              have hXs : Hid ((rowW (w5.drewN n) g6 51 F r2).heap.size = w5.heap.size) := size_rowW (w5.drewN n) g6 51 F r2
              generalize rowW (w5.drewN n) g6 51 F r2 = X at *
              go_wp2
              go_loopw [14, 15] (fun o i wr => ∃ j : Nat, j ≤ 16 ∧ i = .int .i64 j ∧ wr.ownsRow X.heap.size 5 1 o (4 * j) ((outN F T j).map (Value.int .u8)) ∧ Below X.heap.size X wr) (fun _ i _ => 16 - (intOf i).toNat)
              case atStart => exact ⟨0, by omega, rfl, World.ownsRow_made X #[] 0 (Nat.le_refl _) (Nat.zero_le _) rfl, (Below.refl _ _).alloc (Nat.le_refl _) _⟩
              case round =>
                obtain ⟨j, hj, rfl, hown, hbl⟩ := hrel
                by_cases hlt : j < 16
                · have E := hide (outN_succ F T j)
                  have q1 : (j : Int) < 16 := by omega
                  have p6 : wr.cell? ⟨g6, j, none⟩ = some (.int .u32 (wi (gW F j))) := row_cellW ((hbl.block g6 (by have := (unhide hge).2.2; have := unhide hXs; omega)).trans hX6) j (by rw [unhide HFl]; omega)
                  have pg : wr.cell? ⟨g, j, none⟩ = some (.int .u32 (wi (gW T j))) := row_cellW ((hbl.block g (unhide hgX)).trans hXg) j (by rw [unhide HTl]; omega)
                  have eN := w_add (gW F j) (gW T j)
                  rw [IntKind.wrap_u32'] at eN
                  generalize gW F j + gW T j = y at *
                  generalize gW F j = y1 at *
                  generalize gW T j = y2 at *
                  have HO := hide hown
                  have HB := hide hbl
                  clear hX6 hXg hown hbl
                  go_wp2
                  go_quiet (fail)
                  have ho2 : (wr.drewN nq).ownsRow X.heap.size 5 1 u14 (4 * j) ((outN F T j).map (Value.int .u8)) := unhide HO
                  have hb2 := hide (below_drewN (unhide HB) nq)
                  have HBS := hide (unhide hb2).size
                  generalize wr.drewN nq = w7 at *
                  clear p6 pg HO HB
                  rw [eN]
                  obtain ⟨z0, z9⟩ := wi_bd y
                  have hz : Hid (leB y = [wi y % 256, wi y / 256 % 256, wi y / 65536 % 256, wi y / 16777216]) := rfl
                  generalize wi y = z at *
                  have HO := hide ho2
                  have HJ := hide hlt
                  clear eN q1 ho2 hlt hj
                  go_wp2_with (at_builtin
                               generalize z / 16777216 = b3 at *
                               generalize z / 65536 % 256 = b2 at *
                               generalize z / 256 % 256 = b1 at *
                               generalize z % 256 = b0 at *
                               clear z0 z9
                               have hnew := World.news_of_block (w := w7.alloc (.cells #[.int .u8 b0, .int .u8 b1, .int .u8 b2, .int .u8 b3] 5)) (cs := #[.int .u8 b0, .int .u8 b1, .int .u8 b2, .int .u8 b3]) (t := 5) (fr := (0, 0)) (heap_alloc_new w7 _)
                               have hone : ∀ u ∈ [Value.int .u8 b0, .int .u8 b1, .int .u8 b2, .int .u8 b3], u.oneCell' = true := by simp [Value.oneCell']
                               have hl2 : 4 * j + 4 ≤ maxLen := by have := unhide HJ; unfold maxLen; omega
                               have hl3 : (4 * j + 4) * 1 ≤ 140737488355328 := by have := unhide HJ; omega
                               have ho3 := (unhide HO).alloc (.cells #[.int .u8 b0, .int .u8 b1, .int .u8 b2, .int .u8 b3] 5)
                               have hs3 : X.heap.size ≤ (w7.alloc (.cells #[.int .u8 b0, .int .u8 b1, .int .u8 b2, .int .u8 b3] 5)).heap.size := by have := unhide HBS; simp; omega
                               refine wpList_append_lies _ rfl _ _ 44 rfl X.heap.size 5 k0 (.int .u8 0) 1 1 Tryd.underlying44 hk0 kz0 kz1 kz2 rfl (by omega) u14 (4 * j) _ rfl ho3
                                        ⟨w7.heap.size, 0, none⟩ 4 4 [Value.int .u8 b0, .int .u8 b1, .int .u8 b2, .int .u8 b3] rfl rfl hnew hone (by omega) hl2 hl3 hs3 (w7.heap.size + 1) (by simp) ?_
                               intro g8 c8 w8 own8 gr8 at8 lt8)
                  have hb8 : Below X.heap.size X w8 := Below.grown ((unhide hb2).alloc (unhide hb2).size _) gr8 hs3 fun k hk => ((unhide HO).lt k hk).1
                  have ho8 : w8.ownsRow X.heap.size 5 1 (.slice (some ⟨g8, 0, none⟩) (4 * (j + 1)) c8) (4 * (j + 1)) ((outN F T (j + 1)).map (Value.int .u8)) := by
                    rw [unhide E, unhide hz, List.map_append]
                    exact own8
                  have H8 := hide hb8
                  have O8 := hide ho8
                  clear own8 gr8 at8 lt8 hnew hone hl2 hl3 ho3 hs3 hb8 ho8
                  go_wp2
                  go_roundw
                  case rel => exact ⟨j + 1, unhide HJ, by go_num, unhide O8, unhide H8⟩
                  case measure => have := unhide HJ; simp [intOf]; omega
                · obtain rfl : j = 16 := by omega
                  have hc := bytes_str hown (outN_len F T 16)
                  go_wp2
                  go_ret
                  rw [unhide hT, unhide HF2]
                  exact ⟨rfl, (unhide hXb).trans (hbl.mono (unhide hXb).size)⟩
end Go.Proofs.YtggiijlgdpkkfaaDoor
