/- The program's sixteen words that a stream begins with. -/
import Derived.Test.YtggiijlgdpkkfaaDoorSa
import Derived.Laws.Cover3
namespace Go.Proofs.YtggiijlgdpkkfaaDoor
open Go.RowKit
set_option maxHeartbeats 4000000
set_option maxRecDepth 20000
theorem info43 : (Tryd.prog.info? 53).map (fun i => (i.zero, i.size)) = some (some (.agg (Array.replicate 16 (.int .u32 0))), 16) := by kernel_rfl
theorem start23 (key nonce : ByteArray) (hk : key.size = 32) (hn : nonce.size = 12) (w : World) :
    Calls Tryd.prog 29 #[.string key, .string nonce] w fun e w' => e = .returned (.agg ((startW key nonce 0).map wV).toArray) ∧ Below w.heap.size w w' := by
  go_enter Tryd.func29, Tryd.ntmps29
  go_wp2
  generalize hW1 : (w.alloc _).alloc _ = W1
  obtain ⟨ck, rk, hck, ek⟩ := str_bytes key W1
  have hz1 : W1.heap.size = w.heap.size + 1 + 1 := by rw [← hW1]; simp
  generalize hW2 : rowM (W1.drew.alloc (.cells #[] 5)) W1.heap.size 5 .u8 (byteI key) rk = W2 at ek
  have hz2 : W2.heap.size = w.heap.size + 1 + 1 + 1 := by rw [← hW2, size_rowM, sz2, hz1]
  obtain ⟨cn, rn, hcn, en⟩ := str_bytes nonce W2
  generalize hW3 : rowM (W2.drew.alloc (.cells #[] 5)) W2.heap.size 5 .u8 (byteI nonce) rn = W3 at en
  have sa : Hid (Sa w w.heap.size (w.heap.size + 1 + 1) (w.heap.size + 1 + 1 + 1) key nonce (kW key 0) W3) := by
    subst hW1
    exact sa_made w _ _ key nonce hk hn (by kernel_rfl) (by unfold kW; kernel_rfl) rk rn W2 W3 hW2.symm hW3.symm
  rw [hk, hz1] at ek
  rw [hn, hz2] at en
  rw [hk] at hck
  rw [hn] at hcn
  clear hW1 hW2 hW3 hz1 hz2
  rw [ek]
  go_wp2
  clear ek en
  go_loopw [15] (fun i wr => ∃ j : Nat, j ≤ 8 ∧ i = .int .i64 j ∧ Sa w w.heap.size (w.heap.size + 1 + 1) (w.heap.size + 1 + 1 + 1) key nonce (kW key j) wr) (fun i _ => 8 - (intOf i).toNat)
  case atStart => exact ⟨0, by omega, rfl, unhide sa⟩
  case round =>
    clear sa
    obtain ⟨j, hj, rfl, st⟩ := hrel
    by_cases hlt : j < 8
    · have qj : (j : Int) < 8 := by omega
      have q0 : (0 : Int) ≤ (j : Int) := by omega
      obtain ⟨m, hm⟩ : ∃ m, m = 4 * j := ⟨_, rfl⟩
      have em : (j : Int) * 4 = (m : Int) := by omega
      have m0 : (0 : Int) ≤ (m : Int) := by omega
      have m1 : (m : Int) ≤ 28 := by omega
      have p0 := st.k m (by omega)
      have p1 := st.k (m + 1) (by omega)
      have p2 := st.k (m + 2) (by omega)
      have p3 := st.k (m + 3) (by omega)
      have hat : ∀ W, (Instr.arrayAt 61 (.slice (some ⟨w.heap.size + 1 + 1, m, none⟩) (32 - m) (ck - m))).run Tryd.prog W = .ok (.pointer (some ⟨w.heap.size + 1 + 1, m, none⟩)) W := fun W => run_arrayAt W 61 _ 4 _ _ _ Tryd.underlying61 (by omega)
      have SA := hide st
      have HS := hide (kW_succ key j hlt)
      rw [← hm] at HS
      have HL := hide (kW_len key j hj)
      have HM := hide hm
      clear st hm
      go_wp2_with fail
      refine (word36 _ _ _ _ (bt_bd key m) (bt_bd key (m + 1)) (bt_bd key (m + 2)) (bt_bd key (m + 3)) wr).mono ?_
      rintro e w1 ⟨rfl, rfl⟩
      rw [show le4 (bt key m) (bt key (m + 1)) (bt key (m + 2)) (bt key (m + 3)) = wordAt key m from rfl]
      have st2 := (unhide SA).alloc (.cells #[.int .u8 (bt key m), .int .u8 (bt key (m + 1)), .int .u8 (bt key (m + 2)), .int .u8 (bt key (m + 3))] 61)
      generalize wr.alloc (.cells #[.int .u8 (bt key m), .int .u8 (bt key (m + 1)), .int .u8 (bt key (m + 2)), .int .u8 (bt key (m + 3))] 61) = Z at *
      generalize wordAt key m = y at *
      have hrow : Z = rowW (Z.drewN 0) (w.heap.size + 1) 53 (kW key j) [] := (rowW_same Z (w.heap.size + 1) 53 (kW key j) [] st2.s).symm
      have S2 := hide st2
      have hf := frozen_rowW (Z.drewN 0) (w.heap.size + 1) 53 (kW key j) [] (4 + j) st2.lt
      have hc := cell_rowW (Z.drewN 0) (w.heap.size + 1) 53 (kW key j) [] (4 + j) (by rw [unhide HL]; omega) st2.lt
      have hs := set_rowW (Z.drewN 0) (w.heap.size + 1) 53 (kW key j) [] (4 + j) y (by rw [unhide HL]; omega) st2.lt
      rw [unhide HS] at hs
      rw [hrow]
      clear hrow st2 p0 p1 p2 p3 hat SA
      have q4 : ((4 + j : Nat) : Int) = 4 + (j : Int) := by omega
      go_wp2
      go_roundw
      case rel =>
        have hst := (unhide S2).put (kW key (j + 1)) 0
        first
          | exact ⟨j + 1, by omega, by go_num, hst⟩
          | ((repeat apply Exists.intro); refine ⟨⟨j + 1, by omega, ?_, hst⟩, rfl⟩; go_num)
      case measure => simp [intOf]; omega
    · obtain rfl : j = 8 := by omega
      rw [kW_all key nonce] at st
      have sa := hide st
      clear st
      go_wp2
      go_loopw [29] (fun i wr => ∃ j : Nat, j ≤ 3 ∧ i = .int .i64 j ∧ Sa w w.heap.size (w.heap.size + 1 + 1) (w.heap.size + 1 + 1 + 1) key nonce (nW key nonce j) wr) (fun i _ => 3 - (intOf i).toNat)
      case atStart => exact ⟨0, by omega, rfl, unhide sa⟩
      case round =>
        clear sa
        obtain ⟨j, hj, rfl, st⟩ := hrel
        by_cases hlt : j < 3
        · have qj : (j : Int) < 3 := by omega
          have q0 : (0 : Int) ≤ (j : Int) := by omega
          obtain ⟨m, hm⟩ : ∃ m, m = 4 * j := ⟨_, rfl⟩
          have em : (j : Int) * 4 = (m : Int) := by omega
          have m0 : (0 : Int) ≤ (m : Int) := by omega
          have m1 : (m : Int) ≤ 8 := by omega
          have p0 := st.n m (by omega)
          have p1 := st.n (m + 1) (by omega)
          have p2 := st.n (m + 2) (by omega)
          have p3 := st.n (m + 3) (by omega)
          have hat : ∀ W, (Instr.arrayAt 61 (.slice (some ⟨w.heap.size + 1 + 1 + 1, m, none⟩) (12 - m) (cn - m))).run Tryd.prog W = .ok (.pointer (some ⟨w.heap.size + 1 + 1 + 1, m, none⟩)) W := fun W => run_arrayAt W 61 _ 4 _ _ _ Tryd.underlying61 (by omega)
          have SA := hide st
          have HS := hide (nW_succ key nonce j hlt)
          rw [← hm] at HS
          have HL := hide (nW_len key nonce j hj)
          have HM := hide hm
          clear st hm
          go_wp2_with fail
          refine (word36 _ _ _ _ (bt_bd nonce m) (bt_bd nonce (m + 1)) (bt_bd nonce (m + 2)) (bt_bd nonce (m + 3)) wr).mono ?_
          rintro e w1 ⟨rfl, rfl⟩
          rw [show le4 (bt nonce m) (bt nonce (m + 1)) (bt nonce (m + 2)) (bt nonce (m + 3)) = wordAt nonce m from rfl]
          have st2 := (unhide SA).alloc (.cells #[.int .u8 (bt nonce m), .int .u8 (bt nonce (m + 1)), .int .u8 (bt nonce (m + 2)), .int .u8 (bt nonce (m + 3))] 61)
          generalize wr.alloc (.cells #[.int .u8 (bt nonce m), .int .u8 (bt nonce (m + 1)), .int .u8 (bt nonce (m + 2)), .int .u8 (bt nonce (m + 3))] 61) = Z at *
          generalize wordAt nonce m = y at *
          have hrow : Z = rowW (Z.drewN 0) (w.heap.size + 1) 53 (nW key nonce j) [] := (rowW_same Z (w.heap.size + 1) 53 (nW key nonce j) [] st2.s).symm
          have S2 := hide st2
          have hf := frozen_rowW (Z.drewN 0) (w.heap.size + 1) 53 (nW key nonce j) [] (13 + j) st2.lt
          have hc := cell_rowW (Z.drewN 0) (w.heap.size + 1) 53 (nW key nonce j) [] (13 + j) (by rw [unhide HL]; omega) st2.lt
          have hs := set_rowW (Z.drewN 0) (w.heap.size + 1) 53 (nW key nonce j) [] (13 + j) y (by rw [unhide HL]; omega) st2.lt
          rw [unhide HS] at hs
          rw [hrow]
          clear hrow st2 p0 p1 p2 p3 hat SA
          have q4 : ((13 + j : Nat) : Int) = 13 + (j : Int) := by omega
          go_wp2
          go_roundw
          case rel =>
            have hst := (unhide S2).put (nW key nonce (j + 1)) 0
            first
              | exact ⟨j + 1, by omega, by go_num, hst⟩
              | ((repeat apply Exists.intro); refine ⟨⟨j + 1, by omega, ?_, hst⟩, rfl⟩; go_num)
          case measure => simp [intOf]; omega
        · obtain rfl : j = 3 := by omega
          rw [nW_all key nonce] at st
          have hl := startW_len key nonce 0
          have hr := hide st.r
          have hs : Hid (wr.heap[w.heap.size + 1]? = some (.cells ((startW key nonce 0).map wV).toArray 53 (0, 0))) := hide (by rw [st.s, wObj, List.append_nil])
          have hbel := hide st.below
          generalize hTT : startW key nonce 0 = T at *
          have HT2 := hide hTT
          clear hTT
          have hsz : Hid ((Tryd.prog.info? 53).map (·.size) = some (T.map wV).toArray.size) := hide (by rw [(zero_of_info info43).2]; simp [hl])
          have hol : Hid ((Array.replicate 16 (Value.int .u32 0)).size = (T.map wV).toArray.size) := hide (by simp [hl])
          have hall : Hid ((T.map wV).toArray.all (·.oneCell') = true) := hide (by simp [Value.oneCell'])
          clear st hl
          generalize hCC : (T.map wV).toArray = cs at *
          have HC2 := hide hCC
          clear hCC
          go_wp2_with (first
            | refine wpList_load_row rfl 53 _ rfl (w.heap.size + 1) rfl 53 _ (0, 0) _ (unhide hs) Tryd.underlying53 rfl (unhide hsz) ?_
            | refine wpList_store_row rfl 53 _ _ rfl w.heap.size cs rfl rfl 53 _ (unhide hr) (unhide hsz) (unhide hol) (unhide hall) ?_)
          refine bodyPost_ret (v := .agg cs) ?_ rfl ⟨?_, ?_⟩
          · exact results_cell_row rfl _ _ w.heap.size 53 cs (0, 0) _ rfl (get_setRow (unhide hr)) Tryd.underlying53 rfl (unhide hsz)
          · rw [unhide HT2, unhide HC2]
          · exact below_setRow (unhide hbel) (Nat.le_refl _)
end Go.Proofs.YtggiijlgdpkkfaaDoor
