/- Counts, one behind the other: the program's side. -/
import Derived.Test.YtafjodaeckiedaaClo
import Derived.Deep.LoopGhost
import Derived.WalkMore
namespace Go.Proofs.Ytafjodaeckiedaa
open Go.RowKit
set_option maxHeartbeats 4000000
set_option maxRecDepth 20000
/-- the words, what is left of them, the counts: each in a block of its own -/
structure CS (w : World) (v u : Value) (ds : List Int) (wr : World) : Prop where
  bw : wr.heap[w.heap.size]? = some (.cells #[v] 27 (0, 0))
  bl : wr.heap[w.heap.size + 1]? = some (.cells #[u] 27 (0, 0))
  bc : wr.heap[w.heap.size + 2]? = some (rowObj 3 .i64 ds [])
  be : Below w.heap.size w wr
theorem CS.left {w : World} {v u : Value} {ds : List Int} {wr : World} (h : CS w v u ds wr) (u' : Value) : CS w v u' ds (wr.setCell ⟨w.heap.size + 1, 0, none⟩ u') :=
  ⟨row_set_other h.bw (by omega), by rw [row_set h.bl]; rfl, row_set_other h.bc (by omega), bl_set h.be (by omega)⟩
theorem CS.row {w : World} {v u : Value} {ds : List Int} {wr : World} (h : CS w v u ds wr) (i : Nat) (x : Int) (hi : i < ds.length) : CS w v u (ds.set i x) (wr.setCell ⟨w.heap.size + 2, i, none⟩ (.int .i64 x)) :=
  ⟨row_set_other h.bw (by omega), row_set_other h.bl (by omega), set_rowO h.bc i x hi, bl_set h.be (by omega)⟩
theorem get_alloc_old {w : World} {o o' : Obj} {n : Nat} (h : w.heap[n]? = some o') : (w.alloc o).heap[n]? = some o' := by
  rw [← h]; exact Array.getElem?_push_lt (Array.getElem?_eq_some_iff.1 h).1 |>.trans (Array.getElem?_eq_getElem _).symm
theorem size_alloc (w : World) (o : Obj) : (w.alloc o).heap.size = w.heap.size + 1 := Array.size_push ..
theorem CS.new (w : World) (v : Value) (ds : List Int) : CS w v v ds (((w.alloc (.cells #[v] 27 (0, 0))).alloc (.cells #[v] 27 (0, 0))).alloc (rowObj 3 .i64 ds [])) :=
  ⟨get_alloc_old (get_alloc_old (heap_at _ _ _ rfl)), get_alloc_old (heap_at _ _ _ (by rw [size_alloc])), heap_at _ _ _ (by rw [size_alloc, size_alloc]), bl_al (bl_al (bl_al (Below.refl _ _)))⟩
theorem set_take {ds : List Int} {i : Nat} (c : Int) (h : i < ds.length) : (ds.set i c).take (i + 1) = ds.take i ++ [c] := by
  rw [List.take_add_one, List.getElem?_set_self h, List.take_set_of_le (Nat.le_refl _)]
  rfl
theorem counts44 (v : Value) (xs : List Int) (w : World) (hv : intsC w v xs) (hk : wOK xs = true) (N : Nat) (hN : N ≤ 4) (a b : Int) (h1 : 1 ≤ a) (h2 : a < b) (h3 : b ≤ 16) :
    Calls Try.prog 44 #[v, .int .i64 (N : Int), .int .i64 a, .int .i64 b] w fun e w' => ∃ u t c, e = .returned (.tuple #[u, .int .i64 t, .int .i64 c]) ∧ Below w.heap.size w w' ∧
      ((∃ ds k, cF (65536 - 65536 % b) a b N xs 0 = some (ds, k) ∧ t = k ∧ c = 0 ∧ ownI w.heap.size w'.heap.size w' u ds) ∨ (cF (65536 - 65536 % b) a b N xs 0 = none ∧ t = 0 ∧ c = 14 ∧ u = .slice none 0 0)) := by
  obtain ⟨top, ht⟩ : ∃ top, top = 65536 - 65536 % b := ⟨_, rfl⟩
  rw [← ht]
  have HT := hide ht
  have HK := hide hk
  have HV := hide hv
  obtain ⟨A, cap, rfl, hcap⟩ := hv.2
  have KD := hide (draws55 _ A xs.length cap rfl)
  have mk := make_ints N (by omega)
  have HN := hide hN
  clear ht hk hv hcap
  go_enter Try.func44, Try.ntmps44
  go_wp2
  go_step3
  go_wp2_with fail
  refine (unhide KD w).mono ?_
  rintro e w1 ⟨rfl, rfl⟩
  clear KD
  go_wp2
  go_step3
  go_wp2
  clear mk
  have HL := hide (wOK_len (unhide HK))
  go_loopg [26] N (fun g s26 wr => ∃ (i k : Nat) (u : Value) (ds : List Int), i + g = N ∧ s26 = .int .i64 i ∧ CS w (.slice A xs.length cap) u ds wr ∧ intsC w u (xs.drop k) ∧ k ≤ xs.length ∧ ds.length = N ∧
    (∀ j, i ≤ j → j < N → ds.getD j 0 = 0) ∧ cF top a b N xs 0 = (cF top a b g (xs.drop k) k).map (fun r => (ds.take i ++ r.1, r.2)))
  case atStart =>
    refine ⟨0, 0, _, _, by omega, rfl, CS.new w _ _, unhide HV, by omega, by simp, fun j _ hj => by simp [hj], ?_⟩
    simp
  case round =>
    obtain ⟨i, k, u, ds, hig, rfl, cs, hu, hkl, hdl, hz, hc⟩ := hrel
    cases gk with
    | zero =>
      obtain rfl : i = N := by omega
      have HE : Hid (cF top a b i xs 0 = some (ds, (k : Int))) := hide (by
        rw [hc, cF, Option.map_some, List.append_nil, List.take_of_length_le (by omega)])
      obtain ⟨A', c', rfl, _⟩ := hu.2
      have KT := hide (taken60 _ _ xs.length (xs.drop k).length A A' cap c' rfl rfl _ _ wr cs.bw cs.bl (unhide HL) (by rw [List.length_drop]; omega))
      rw [show ((xs.length : Int) - ((xs.drop k).length : Nat)) = (k : Int) by rw [List.length_drop]; omega] at KT
      have HC := hide cs
      have HD := hide hdl
      have q0 : ¬ ((i : Int) < (i : Int)) := by omega
      clear cs hu hkl hdl hz hc hig
      go_wp2_with fail
      refine (unhide KT).mono ?_
      rintro e w2 ⟨rfl, hw2⟩
      have hw3 := hw2.symm
      subst hw3
      clear KT
      go_wp2
      try rw [Exit.noGoto_ret]
      go_ret3
      refine ⟨_, _, _, rfl, (unhide HC).be, .inl ⟨ds, k, unhide HE, rfl, rfl, .inr ⟨w.heap.size + 2, i, [], ?_, by omega, (Array.getElem?_eq_some_iff.1 (unhide HC).bc).1, (unhide HC).bc, by have := unhide HD; omega⟩⟩⟩
      rw [unhide HD]
      rfl
    | succ g =>
      have hil : i < N := by omega
      have q1 : (i : Int) < (N : Int) := by omega
      have HI := hide hil
      have HD := hide hdl
      have HC := hide hc
      have HZ := hide hz
      have HKL := hide hkl
      have HIG := hide hig
      have CS0 := hide cs
      have HU := hide hu
      clear cs hu hkl hdl hz hc hig hil
      go_wp2
      go_loopg [] (xs.length - k) (fun q wx => ∃ (k' c : Nat) (u' : Value), k' + q = xs.length ∧ k ≤ k' ∧ CS w (.slice A xs.length cap) u' (ds.set i c) wx ∧ intsC w u' (xs.drop k') ∧ c ≤ k' ∧
        gF top a b (xs.drop k') k' c = gF top a b (xs.drop k) k 0)
      case atStart =>
        refine ⟨k, 0, u, by have := unhide HKL; omega, Nat.le_refl _, ?_, unhide HU, by omega, rfl⟩
        have e0 : ds.set i ((0 : Nat) : Int) = ds := by
          apply List.ext_getElem?
          intro j
          rw [List.getElem?_set]
          by_cases hj : i = j
          · subst hj
            rw [if_pos rfl, if_pos (by have := unhide HD; have := unhide HI; omega)]
            have h0 := unhide HZ i (Nat.le_refl _) (unhide HI)
            rw [List.getD_eq_getElem?_getD, List.getElem?_eq_getElem (by have := unhide HD; have := unhide HI; omega)] at h0
            rw [List.getElem?_eq_getElem (by have := unhide HD; have := unhide HI; omega)]
            exact congrArg some h0.symm
          · rw [if_neg hj]
        rw [e0]
        exact unhide CS0
      case round =>
        obtain ⟨k', c, u', hkq, hkk, cs, hu, hck, hg⟩ := hrel
        clear CS0 HU
        have hkl : k' ≤ xs.length := by omega
        have K := below58 b (by omega) (by omega) u' (xs.drop k') w hu (wOK_drop (unhide HK) k') (w.heap.size + 1) wr cs.be cs.bl
        rw [← unhide HT] at K
        rcases gF_u (top := top) (a := a) (b := b) (xs.drop k') 0 with ⟨_, m, _, hm, huF, hgF⟩ | ⟨x, m, hm1, hm2, _, huF, hgF⟩
        · -- words run out
          rw [huF] at K
          have HE : Hid (cF top a b N xs 0 = none) := hide (by
            rw [unhide HC, cF, ← hg, hgF]; rfl)
          have KK := hide K
          have CC := hide cs
          clear K cs hu hg hgF huF hm hkq hkk hck hkl
          go_wp2_with fail
          refine (unhide KK).mono ?_
          rintro e w2 ⟨u2, rfl, hw2, _⟩
          have HB : Hid (Below w.heap.size w w2) := hide (by rw [hw2]; exact bl_set (unhide CC).be (by omega))
          clear hw2 KK CC
          go_wp2
          try rw [Exit.noGoto_ret]
          go_ret3
          exact ⟨_, _, _, rfl, unhide HB, .inr ⟨unhide HE, rfl, rfl, rfl⟩⟩
        · rw [huF] at K
          rw [show ((0 : Int) + (m : Int)).toNat = m by omega, List.drop_drop] at K
          rw [List.length_drop] at hm2
          have KK := hide K
          have CC := hide cs
          by_cases hxa : a ≤ x
          · -- the count is done
            have HG : Hid (gF top a b (xs.drop k) k 0 = ((c : Int), ((k' + m : Nat) : Int), true)) := hide (by
              rw [← hg, hgF, if_pos hxa]; simp)
            have HM : Hid (m ≤ xs.length - k' ∧ k' ≤ xs.length ∧ k ≤ k') := hide ⟨hm2, hkl, hkk⟩
            clear K cs hu hg hgF huF hm1 hm2 hkq hkk hck hkl
            go_wp2_with fail
            refine (unhide KK).mono ?_
            rintro e w2 ⟨u2, rfl, hw2, hi2⟩
            have CS2 : Hid (CS w (.slice A xs.length cap) u2 (ds.set i c) w2) := hide (by rw [hw2]; exact (unhide CC).left u2)
            have HI2 := hide hi2
            clear hw2 KK CC hi2
            go_wp2
            go_roundg g
            case measure => omega
            case rel =>
              refine ⟨i + 1, k' + m, u2, ds.set i c, by have := unhide HIG; omega, by have := unhide HI; have := unhide HN; go_num, unhide CS2, unhide HI2, by have := unhide HM; omega, by rw [List.length_set]; exact unhide HD, fun j h4 h5 => ?_, ?_⟩
              · rw [List.getD_eq_getElem?_getD, List.getElem?_set_ne (by omega), ← List.getD_eq_getElem?_getD]
                exact unhide HZ j (by omega) h5
              · have hM := unhide HM
                rw [unhide HC, cF, unhide HG, if_pos rfl, Option.map_map, List.drop_drop, show k + (((k' + m : Nat) : Int) - (k : Int)).toNat = k' + m by omega]
                congr 1
                funext r
                simp only [Function.comp]
                rw [set_take (c : Int) (by have := unhide HD; have := unhide HI; omega)]
                simp
          · -- one more
            have hxa' : x < a := by omega
            have HG : Hid (gF top a b (xs.drop (k' + m)) ((k' + m : Nat) : Int) ((c + 1 : Nat) : Int) = gF top a b (xs.drop k) k 0) := hide (by
              rw [← hg, hgF, if_neg hxa, List.drop_drop]; simp)
            have HM : Hid (1 ≤ m ∧ m ≤ xs.length - k' ∧ k' ≤ xs.length ∧ k ≤ k' ∧ c ≤ k' ∧ k' + gk = xs.length) := hide ⟨hm1, hm2, hkl, hkk, hck, hkq⟩
            have c1 : (c : Int) ≤ 2000 := by have := unhide HL; omega
            clear K cs hu hg hgF huF hm1 hm2 hkq hkk hck hkl hxa
            go_wp2_with fail
            refine (unhide KK).mono ?_
            rintro e w2 ⟨u2, rfl, hw2, hi2⟩
            have cs2 : CS w (.slice A xs.length cap) u2 (ds.set i c) w2 := by rw [hw2]; exact (unhide CC).left u2
            have HI2 := hide hi2
            have hl2 : i < (ds.set i (c : Int)).length := by rw [List.length_set]; have := unhide HD; have := unhide HI; omega
            have p1 := cell_rowO cs2.bc i hl2
            rw [show (ds.set i (c : Int)).getD i 0 = (c : Int) by rw [List.getD_eq_getElem?_getD, List.getElem?_set_self (by rwa [List.length_set] at hl2)]; rfl] at p1
            have p2 := free_rowO cs2.bc i
            have cs3 := cs2.row i ((c + 1 : Nat) : Int) hl2
            rw [List.set_set] at cs3
            have CS3 := hide cs3
            clear hw2 KK CC hi2 cs2 cs3 hl2
            go_wp2
            go_roundg (gk - m)
            case measure => have := unhide HM; omega
            case rel =>
              refine ⟨k' + m, c + 1, u2, by have := unhide HM; omega, by have := unhide HM; omega, unhide CS3, unhide HI2, by have := unhide HM; omega, unhide HG⟩
end Go.Proofs.Ytafjodaeckiedaa
