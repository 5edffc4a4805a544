/- The program's OpenReply. -/
import Derived.Test.YtncplefjokbbjaaDoorOr
namespace Go.Proofs.YtncplefjokbbjaaDoor
open Go.RowKit
set_option maxHeartbeats 4000000
set_option maxRecDepth 20000
theorem strs_cell {W : World} {A : Option Addr} {n cap : Nat} {ts : List ByteArray} (h : strsV W (.slice A n cap) ts) (hn : 0 < ts.length) : ∃ b off, A = some ⟨b, off, none⟩ ∧ b < W.heap.size ∧ ∀ i, i < ts.length → W.cell? ⟨b, off + i, none⟩ = some (.string (ts.getD i noS)) := by
  obtain ⟨A', c', e, hc⟩ := h
  simp only [Value.slice.injEq] at e
  obtain ⟨rfl, rfl, rfl⟩ := e
  exact hc hn
theorem impl_OR (ts : List ByteArray) (u : Value) (xs : List Int) (v : Value) (w : World) (hu : strsV w u ts) (hv : bytesV w v xs) (hts : ts.length ≤ 2097152) (hxs : xs.length ≤ 2097152) (t : TypeId) (fr : Nat × Nat) (hq : w.heap[0]? = some (.cells qArr t fr)) :
    Calls Tryd.prog 14 #[u, v] w fun e w' => ∃ r, e = .returned (.tuple #[r, .int .i64 (orC ts xs.length)]) ∧ ownB w.heap.size w' r (orL ts xs) ∧ Below w.heap.size w w' := by
  have h0 : 0 < w.heap.size := (Array.getElem?_eq_some_iff.1 hq).1
  have hA : ∃ A cap, v = .slice A xs.length cap := by obtain ⟨A, cap, h, _⟩ := hv; exact ⟨A, cap, h⟩
  obtain ⟨A, cap, rfl⟩ := hA
  have hA2 : ∃ A cap, u = .slice A ts.length cap := by obtain ⟨A, cap, h, _⟩ := hu; exact ⟨A, cap, h⟩
  obtain ⟨A2, cap2, rfl⟩ := hA2
  have hb0 : Below w.heap.size w (w.alloc (.cells #[.slice A xs.length cap] 22)) := (Below.refl _ _).alloc (Nat.le_refl _) _
  have HB0 := hide hb0
  have hll := hide (long21 (.slice A2 ts.length cap2) ts w hu hts)
  have hl := hide (long_list A xs.length cap (decide (65536 < xs.length)) rfl (w.alloc (.cells #[.slice A xs.length cap] 22)) w.heap.size (by
    rw [Go.cell_of_row _ _ _ _ _ _ (heap_alloc_new w _)]; rfl))
  have n0 : (0 : Int) ≤ (ts.length : Int) := by omega
  have n1 : (ts.length : Int) ≤ 2097152 := by omega
  by_cases h1 : 4096 < ts.length
  · have eC : orC ts xs.length = 2 := by unfold orC; rw [if_pos (.inr h1)]
    rw [or_nil eC (by decide), eC]
    rw [show decide (4096 < ts.length) = true by simpa using h1] at hll
    clear h1 eC hv hq h0 hb0 hu hts hxs hl
    generalize xs.length = n at *
    generalize ts.length = m at *
    go_enter Tryd.func14, Tryd.ntmps14
    go_wp2_with fail
    refine (unhide hll).mono ?_
    rintro e w1 ⟨rfl, rfl⟩
    go_wp2
    go_returns
    exact ⟨_, rfl, own_nil _ _, Below.refl _ _⟩
  rw [show decide (4096 < ts.length) = false by simpa using h1] at hll
  by_cases h2 : 65536 < xs.length
  · have eC : orC ts xs.length = 2 := by unfold orC; rw [if_pos (.inl h2)]
    rw [or_nil eC (by decide), eC]
    rw [show decide (65536 < xs.length) = true by simpa using h2] at hl
    clear h1 h2 eC hv hq h0 hb0 hu hts hxs
    generalize xs.length = n at *
    generalize ts.length = m at *
    go_enter Tryd.func14, Tryd.ntmps14
    go_wp2_with fail
    refine (unhide hll).mono ?_
    rintro e w1 ⟨rfl, rfl⟩
    go_wp2_with fail
    refine (unhide hl).mono ?_
    rintro e w1 ⟨rfl, rfl⟩
    go_wp2
    go_returns
    exact ⟨_, rfl, own_nil _ _, unhide HB0⟩
  rw [show decide (65536 < xs.length) = false by simpa using h2] at hl
  by_cases h3 : 4 < ts.length
  · have eC : orC ts xs.length = 4 := by unfold orC; rw [if_neg (by omega), if_pos h3]
    rw [or_nil eC (by decide), eC]
    have h3' : (4 : Int) < (ts.length : Int) := by omega
    clear h1 h2 h3 eC hv hq h0 hb0 hu hts hxs
    generalize xs.length = n at *
    generalize ts.length = m at *
    go_enter Tryd.func14, Tryd.ntmps14
    go_wp2_with fail
    refine (unhide hll).mono ?_
    rintro e w1 ⟨rfl, rfl⟩
    go_wp2_with fail
    refine (unhide hl).mono ?_
    rintro e w1 ⟨rfl, rfl⟩
    go_wp2
    go_returns
    exact ⟨_, rfl, own_nil _ _, unhide HB0⟩
  have h3' : (ts.length : Int) ≤ 4 := by omega
  have hk := hide (has22 (.slice A2 ts.length cap2) ts _ (hu.below hb0) hts)
  cases hK : ts.all isK with
  | false =>
    have eC : orC ts xs.length = 1 := by unfold orC; rw [if_neg (by omega), if_neg h3, hK]; rfl
    rw [or_nil eC (by decide), eC]
    rw [hK] at hk
    clear h1 h2 h3 eC hv hq h0 hb0 hu hts hxs hK
    generalize xs.length = n at *
    generalize ts.length = m at *
    go_enter Tryd.func14, Tryd.ntmps14
    go_wp2_with fail
    refine (unhide hll).mono ?_
    rintro e w1 ⟨rfl, rfl⟩
    go_wp2_with fail
    refine (unhide hl).mono ?_
    rintro e w1 ⟨rfl, rfl⟩
    go_wp2_with fail
    refine (unhide hk).mono ?_
    rintro e w1 ⟨rfl, rfl⟩
    go_wp2
    go_returns
    exact ⟨_, rfl, own_nil _ _, unhide HB0⟩
  | true =>
    have eC : orC ts xs.length = 0 := by unfold orC; rw [if_neg (by omega), if_neg h3, hK]; rfl
    have eL : orL ts xs = opL ts xs := by unfold orL; rw [if_pos eC]
    rw [eC, eL]
    rw [hK] at hk
    have hcl := hide (clone24 (.slice A xs.length cap) xs _ (hv.below hb0) hxs)
    have HU := hide (fun W (hb : Below w.heap.size w W) => hu.below hb)
    have HR := hide (fun (key : ByteArray) (hk : key.size = 32) (ys : List Int) (hy : ys.length = xs.length) (o : Value) (W : World) (ho : bytesV W o ys) (hb : Below w.heap.size w W) => rep20 key hk ys (by omega) o W ho t fr ((hb.block 0 h0).trans hq))
    have HLn := hide (fun j => opL_len (ts.take j) xs)
    have HST := hide (fun j (hj : j < ts.length) => opL_step ts xs j hj)
    have HAT := hide (fun j (hj : j < ts.length) => all_at hK j hj)
    have HEND := hide (show opL (ts.take ts.length) xs = opL ts xs by rw [List.take_length])
    have HST0 := hide (show opL (ts.take 0) xs = xs by rfl)
    clear h1 h2 h3 eC eL hv hq h0 hb0 hu hts hxs hK
    generalize hOp : (fun j => opL (ts.take j) xs) = F
    have HF := hide (fun j => (congrFun hOp j : opL (ts.take j) xs = F j))
    clear hOp
    obtain ⟨n, hn⟩ : ∃ n, n = xs.length := ⟨_, rfl⟩
    obtain ⟨m, hm⟩ : ∃ m, m = ts.length := ⟨_, rfl⟩
    rw [← hn] at HB0 hl hk hcl HR HLn ⊢
    rw [← hm] at n0 n1 h3' hll hk HST HAT HEND HU ⊢
    clear hn
    have HM := hide hm
    clear hm
    go_enter Tryd.func14, Tryd.ntmps14
    go_wp2_with fail
    refine (unhide hll).mono ?_
    rintro e w1 ⟨rfl, hw⟩
    have hw' := hw.symm
    subst hw'
    go_wp2_with fail
    refine (unhide hl).mono ?_
    rintro e w1 ⟨rfl, rfl⟩
    go_wp2_with fail
    refine (unhide hk).mono ?_
    rintro e w1 ⟨rfl, rfl⟩
    go_wp2_with fail
    refine (unhide hcl).mono ?_
    rintro e w1 ⟨r1, rfl, o1, b1⟩
    have B1 := hide ((unhide HB0).trans (b1.mono (unhide HB0).size))
    have O1 := hide (o1.lower (unhide HB0).size)
    clear o1 b1 hll hl hk hcl
    go_wp2
    go_loopw [6, 28] (fun o i wr => ∃ j : Nat, j ≤ m ∧ i = .int .i64 j ∧ ownB w.heap.size wr o (F j) ∧ Below w.heap.size w wr) (fun _ i _ => m - (intOf i).toNat)
    case atStart => exact ⟨0, by omega, rfl, by rw [← unhide HF 0, unhide HST0]; exact unhide O1, unhide B1⟩
    case round =>
      obtain ⟨j, hj, rfl, ho, hb⟩ := hrel
      by_cases hlt : j < m
      · have q1 : (j : Int) < (m : Int) := by omega
        have q0 : (0 : Int) ≤ (j : Int) := by omega
        have hlt' : j < ts.length := by rw [← unhide HM]; exact hlt
        obtain ⟨bk, off, hAk, _, hcj⟩ := strs_cell (unhide HU wr hb) (by omega)
        have p0 := hcj j hlt'
        subst hAk
        have hr := hide (unhide HR (ts.getD j noS) (unhide HAT j hlt) (F j) (by rw [← unhide HF j]; exact unhide HLn j) u6 wr ho.bytes hb)
        rw [← unhide HF j, ← unhide HST j hlt, unhide HF (j + 1)] at hr
        have HJ := hide hlt
        have HBW := hide hb
        clear hcj hlt' hlt hj ho hb
        generalize ts.getD j noS = key at *
        go_wp2_with fail
        refine (unhide hr).mono ?_
        rintro e w2 ⟨r2, rfl, o2, b2⟩
        have B2 := hide ((unhide HBW).trans (b2.mono (unhide HBW).size))
        have O2 := hide (o2.lower (unhide HBW).size)
        clear o2 b2 hr
        go_wp2
        go_roundw
        case rel => exact ⟨j + 1, unhide HJ, by go_num, unhide O2, unhide B2⟩
        case measure => have := unhide HJ; simp [intOf]; omega
      · obtain rfl : j = m := by omega
        have HO : Hid (ownB w.heap.size wr u6 (opL ts xs)) := hide (by rw [← unhide HEND, unhide HF]; exact ho)
        have HBW := hide hb
        clear hlt hj ho hb
        go_wp2
        go_returns
        exact ⟨_, rfl, unhide HO, unhide HBW⟩
end Go.Proofs.YtncplefjokbbjaaDoor
