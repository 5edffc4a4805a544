/- Orders that words lead to: the program. -/
import Derived.Test.YtfodcnnaeakhfaaPrs
import Derived.OwnWalk
namespace Go.Proofs.Ytfodcnnaeakhfaa
open Go.RowKit
set_option maxHeartbeats 4000000
set_option maxRecDepth 20000
abbrev uT (n : Nat) (xs : List Int) : Int × Int × Bool := uF (65536 - 65536 % (n : Int)) n xs 0
/-- so many choices, each below a bound that is one less, and how many words they took -/
def drF : Nat → List Int → Option (List Int × Nat)
  | 0, _ => some ([], 0)
  | m + 1, xs => if (uT (m + 2) xs).2.2 = true then (drF m (xs.drop (uT (m + 2) xs).2.1.toNat)).map fun r => ((uT (m + 2) xs).1 :: r.1, (uT (m + 2) xs).2.1.toNat + r.2) else none
theorem uT_cases (n : Nat) (hn : 1 ≤ n) (xs : List Int) : (∃ m : Nat, uT n xs = (0, (m : Int), false) ∧ m ≤ xs.length) ∨ (∃ (v m : Nat), v < n ∧ m ≤ xs.length ∧ uT n xs = ((v : Int), (m : Int), true)) := by
  rcases gF_u (a := 0) (top := 65536 - 65536 % (n : Int)) (b := (n : Int)) xs 0 with ⟨_, m, _, hm, hu, _⟩ | ⟨v, m, _, hm, ⟨x, _, hv⟩, hu, _⟩
  · exact .inl ⟨m, by show uF _ _ _ _ = _; rw [hu]; simp, by omega⟩
  · have h0 := Int.emod_nonneg x (show (n : Int) ≠ 0 by omega)
    have h1 := Int.emod_lt_of_pos x (show 0 < (n : Int) by omega)
    refine .inr ⟨v.toNat, m, by omega, hm, ?_⟩
    show uF _ _ _ _ = _
    rw [hu, Int.toNat_of_nonneg (by omega)]
    simp
theorem drF_none {m : Nat} {xs : List Int} {t : Nat} (h : uT (m + 2) xs = (0, (t : Int), false)) : drF (m + 1) xs = none := by
  rw [drF, h]; rfl
theorem drF_some {m v t : Nat} {xs : List Int} (h : uT (m + 2) xs = ((v : Int), (t : Int), true)) : drF (m + 1) xs = (drF m (xs.drop t)).map fun r => ((v : Int) :: r.1, t + r.2) := by
  rw [drF, h, if_pos rfl, Int.toNat_natCast]
theorem drF_ok : ∀ (m : Nat) (xs cs : List Int) (k : Nat), drF m xs = some (cs, k) → cs.length = m ∧ chB cs = true ∧ k ≤ xs.length
  | 0, xs, cs, k, h => by
    rw [drF] at h
    obtain ⟨rfl, rfl⟩ := Prod.mk.inj (Option.some.inj h)
    exact ⟨rfl, rfl, Nat.zero_le _⟩
  | m + 1, xs, cs, k, h => by
    rcases uT_cases (m + 2) (by omega) xs with ⟨t, hu, _⟩ | ⟨v, t, hv, ht, hu⟩
    · rw [drF_none hu] at h; cases h
    · rw [drF_some hu] at h
      cases hd : drF m (xs.drop t) with
      | none => rw [hd] at h; cases h
      | some r =>
        obtain ⟨ds, j⟩ := r
        rw [hd, Option.map_some] at h
        obtain ⟨rfl, rfl⟩ := Prod.mk.inj (Option.some.inj h)
        obtain ⟨h1, h2, h3⟩ := drF_ok m _ ds j hd
        rw [List.length_drop] at h3
        refine ⟨by simp [h1], ?_, by omega⟩
        rw [chB, h2, h1, decide_eq_true (show (0 : Int) ≤ v by omega), decide_eq_true (show (v : Int) ≤ (m : Int) + 1 by omega)]
        rfl
/-- the words, what is left of them, the choices: each in a block of its own -/
structure CS (w : World) (v u : Value) (ds : List Int) (wr : World) : Prop where
  bw : wr.heap[w.heap.size]? = some (.cells #[v] 23 (0, 0))
  bl : wr.heap[w.heap.size + 1]? = some (.cells #[u] 23 (0, 0))
  bc : wr.heap[w.heap.size + 2]? = some (rowObj 3 .i64 ds [])
  be : Below w.heap.size w wr
theorem CS.left {w : World} {v u : Value} {ds : List Int} {wr : World} (h : CS w v u ds wr) (u' : Value) : CS w v u' ds (wr.setCell ⟨w.heap.size + 1, 0, none⟩ u') :=
  ⟨row_set_other h.bw (by omega), by rw [row_set h.bl]; rfl, row_set_other h.bc (by omega), bl_set h.be (by omega)⟩
theorem CS.row {w : World} {v u : Value} {ds : List Int} {wr : World} (h : CS w v u ds wr) (i : Nat) (x : Int) (hi : i < ds.length) : CS w v u (ds.set i x) (wr.setCell ⟨w.heap.size + 2, i, none⟩ (.int .i64 x)) :=
  ⟨row_set_other h.bw (by omega), row_set_other h.bl (by omega), set_rowO h.bc i x hi, bl_set h.be (by omega)⟩
theorem CS.below {w : World} {v u : Value} {ds : List Int} {wr w' : World} (h : CS w v u ds wr) (hb : Below wr.heap.size wr w') : CS w v u ds w' :=
  ⟨(hb.block _ (Array.getElem?_eq_some_iff.1 h.bw).1).trans h.bw, (hb.block _ (Array.getElem?_eq_some_iff.1 h.bl).1).trans h.bl, (hb.block _ (Array.getElem?_eq_some_iff.1 h.bc).1).trans h.bc, bl_st hb h.be⟩
theorem get_alloc_old {w : World} {o o' : Obj} {n : Nat} (h : w.heap[n]? = some o') : (w.alloc o).heap[n]? = some o' := by
  rw [← h]; exact Array.getElem?_push_lt (Array.getElem?_eq_some_iff.1 h).1 |>.trans (Array.getElem?_eq_getElem _).symm
theorem size_alloc (w : World) (o : Obj) : (w.alloc o).heap.size = w.heap.size + 1 := Array.size_push ..
theorem CS.new (w : World) (v : Value) (ds : List Int) : CS w v v ds (((w.alloc (.cells #[v] 23 (0, 0))).alloc (.cells #[v] 23 (0, 0))).alloc (rowObj 3 .i64 ds [])) :=
  ⟨get_alloc_old (get_alloc_old (heap_at _ _ _ rfl)), get_alloc_old (heap_at _ _ _ (by rw [size_alloc])), heap_at _ _ _ (by rw [size_alloc, size_alloc]), bl_al (bl_al (bl_al (Below.refl _ _)))⟩
theorem set_take {ds : List Int} {i : Nat} (c : Int) (h : i < ds.length) : (ds.set i c).take (i + 1) = ds.take i ++ [c] := by
  rw [List.take_add_one, List.getElem?_set_self h, List.take_set_of_le (Nat.le_refl _)]
  rfl
theorem CS.ints {w : World} {v u : Value} {ds : List Int} {wr : World} (h : CS w v u ds wr) : intsV wr (.slice (some ⟨w.heap.size + 2, 0, none⟩) ds.length ds.length) ds :=
  ⟨_, _, rfl, fun _ => ⟨w.heap.size + 2, 0, rfl, (Array.getElem?_eq_some_iff.1 h.bc).1, fun k hk => by rw [Nat.zero_add]; exact cell_rowO h.bc k hk⟩⟩
def shEnd (N : Nat) (xs : List Int) (w w' : World) (u : Value) (t c : Int) : Prop :=
  (∃ cs k, drF N xs = some (cs, k) ∧ t = (k : Int) ∧ c = 0 ∧ ownI w.heap.size w'.heap.size w' u (pOf cs)) ∨ (drF N xs = none ∧ t = 0 ∧ c = 14 ∧ u = .slice none 0 0)
theorem shuffled36 (v : Value) (xs : List Int) (w : World) (hv : intsC w v xs) (hk : wOK xs = true) (N : Nat) (hN : N ≤ 15) :
    Calls Try.prog 36 #[v, .int .i64 ((N : Int) + 1)] w fun e w' => ∃ u t c, e = .returned (.tuple #[u, .int .i64 t, .int .i64 c]) ∧ Below w.heap.size w w' ∧ shEnd N xs w w' u t c := by
  have HK := hide hk
  have HV := hide hv
  obtain ⟨A, cap, rfl, hcap⟩ := hv.2
  have KD := hide (draws55 _ A xs.length cap rfl)
  have mk := make_ints N (by omega)
  have HN := hide hN
  have N1 : (N : Int) ≤ 15 := by omega
  have N0 : (0 : Int) ≤ (N : Int) := by omega
  clear hk hv hcap
  have HL := hide (wOK_len (unhide HK))
  go_enter Try.func36, Try.ntmps36
  go_wp2_with fail
  refine (unhide KD w).mono ?_
  rintro e w1 ⟨rfl, rfl⟩
  clear KD
  go_wp2
  clear mk
  go_loopw [23] (fun s wr => ∃ (i k : Nat) (u : Value) (ds : List Int), i ≤ N ∧ s = .int .i64 i ∧ CS w (.slice A xs.length cap) u ds wr ∧ intsC w u (xs.drop k) ∧ k ≤ xs.length ∧ ds.length = N ∧
    (drF (N - i) (xs.drop k)).map (fun r => (ds.take i ++ r.1, k + r.2)) = drF N xs) (fun s _ => N - (intOf s).toNat)
  case atStart =>
    refine ⟨0, 0, _, _, by omega, rfl, CS.new w _ _, unhide HV, by omega, by simp, ?_⟩
    simp
  case round =>
    obtain ⟨i, k, u, ds, hi, rfl, cs, hu, hkl, hdl, hd⟩ := hrel
    by_cases hlt : i < N
    · have q1 : (i : Int) < (N : Int) := by omega
      have q0 : (0 : Int) ≤ (i : Int) := by omega
      obtain ⟨m, hm⟩ : ∃ m, N - i = m + 1 := ⟨N - i - 1, by omega⟩
      rw [hm] at hd
      have e1 : (N : Int) + 1 - (i : Int) = ((m + 2 : Nat) : Int) := by omega
      have K := below58 ((m + 2 : Nat) : Int) (by omega) (by omega) u (xs.drop k) w hu (wOK_drop (unhide HK) k) (w.heap.size + 1) wr cs.be cs.bl
      have KK : Hid (Calls Try.prog 51 #[.int .i64 ((m + 2 : Nat) : Int), .pointer (some ⟨w.heap.size + 1, 0, none⟩)] wr fun e w' => ∃ u, e = .returned (.tuple #[.int .i64 (uT (m + 2) (xs.drop k)).1, .bool (uT (m + 2) (xs.drop k)).2.2]) ∧ w' = wr.setCell ⟨w.heap.size + 1, 0, none⟩ u ∧ intsC w u ((xs.drop k).drop (uT (m + 2) (xs.drop k)).2.1.toNat)) := hide K
      clear K
      rcases uT_cases (m + 2) (by omega) (xs.drop k) with ⟨t, hu2, ht⟩ | ⟨x, t, hx, ht, hu2⟩
      · rw [hu2] at KK
        have HE : Hid (drF N xs = none) := hide (by rw [← hd, drF_none hu2]; rfl)
        have CC := hide cs
        obtain ⟨M, hM⟩ : ∃ M : Int, ((m + 2 : Nat) : Int) = M := ⟨_, rfl⟩
        rw [hM] at KK e1
        clear cs hu hd hu2 hkl hdl hi hlt hm hM
        go_wp2_with fail
        refine (unhide KK).mono ?_
        rintro e w2 ⟨u2, rfl, hw2, _⟩
        have HB : Hid (Below w.heap.size w w2) := hide (by rw [hw2]; exact bl_set (unhide CC).be (by omega))
        clear hw2 KK CC
        go_wp2
        go_ret3
        exact ⟨_, _, _, rfl, unhide HB, .inr ⟨unhide HE, rfl, rfl, rfl⟩⟩
      · rw [hu2] at KK
        rw [Int.toNat_natCast, List.drop_drop] at KK
        rw [List.length_drop] at ht
        have HD : Hid ((drF (N - (i + 1)) (xs.drop (k + t))).map (fun r => ((ds.set i (x : Int)).take (i + 1) ++ r.1, k + t + r.2)) = drF N xs) := hide (by
          rw [← hd, drF_some hu2, Option.map_map, List.drop_drop, show N - (i + 1) = m by omega]
          congr 1
          funext r
          simp only [Function.comp]
          rw [set_take _ (by omega), List.append_assoc]
          simp [Nat.add_assoc])
        have CC := hide cs
        have HDL := hide hdl
        have HI := hide hlt
        have HT : Hid (k + t ≤ xs.length) := hide (by omega)
        obtain ⟨M, hM⟩ : ∃ M : Int, ((m + 2 : Nat) : Int) = M := ⟨_, rfl⟩
        rw [hM] at KK e1
        have x0 : (0 : Int) ≤ (x : Int) := by omega
        clear cs hu hd hu2 hkl hdl hi hlt hm hM hx ht
        go_wp2_with fail
        refine (unhide KK).mono ?_
        rintro e w2 ⟨u2, rfl, hw2, hi2⟩
        have C2 : CS w (.slice A xs.length cap) u2 ds w2 := by rw [hw2]; exact (unhide CC).left u2
        have hil : i < ds.length := by have := unhide HDL; have := unhide HI; omega
        have p1 := cell_rowO C2.bc i hil
        have p2 := free_rowO C2.bc i
        have C3 := hide (C2.row i (x : Int) hil)
        have HI2 := hide hi2
        clear hw2 KK CC hi2 C2 hil
        generalize ds.getD i 0 = y at *
        go_wp2
        go_roundw
        case rel => exact ⟨i + 1, k + t, u2, ds.set i (x : Int), unhide HI, by go_num, unhide C3, unhide HI2, unhide HT, by rw [List.length_set]; exact unhide HDL, unhide HD⟩
        case measure => have := unhide HI; simp [intOf]; omega
    · obtain rfl : i = N := by omega
      rw [Nat.sub_self, drF, Option.map_some, List.append_nil, List.take_of_length_le (by omega), Nat.add_zero] at hd
      obtain ⟨_, hch, _⟩ := drF_ok _ _ _ _ hd.symm
      obtain ⟨A', c', rfl, _⟩ := hu.2
      have hiv := cs.ints
      rw [hdl] at hiv
      have K1 := hide (order28 _ ds wr hiv (by omega) hch)
      have K2 : Hid (∀ W, Below wr.heap.size wr W → Calls Try.prog 53 #[.pointer (some ⟨w.heap.size, 0, none⟩), .pointer (some ⟨w.heap.size + 1, 0, none⟩)] W fun e w' => e = .returned (.int .i64 (k : Int)) ∧ w' = W) := hide fun W hW => by
        have h := taken60 _ _ xs.length (xs.drop k).length A A' cap c' rfl rfl _ _ W (cs.below hW).bw (cs.below hW).bl (unhide HL) (by rw [List.length_drop]; omega)
        rw [show ((xs.length : Int) - ((xs.drop k).length : Nat)) = (k : Int) by rw [List.length_drop]; omega] at h
        exact h
      have HE := hide hd.symm
      have HD := hide hdl
      have HB0 := hide cs.be
      clear cs hu hkl hdl hd hi hlt hch hiv
      go_wp2_with fail
      refine (unhide K1).mono ?_
      rintro e w2 ⟨rfl, hr, hb⟩
      have HR := hide hr
      have HB := hide hb
      clear K1 hr hb
      go_wp2_with fail
      refine (unhide K2 w2 (unhide HB)).mono ?_
      rintro e w3 ⟨rfl, hw3⟩
      have hw4 := hw3.symm
      subst hw4
      clear K2
      go_wp2
      go_ret3
      exact ⟨_, _, _, rfl, bl_st (unhide HB) (unhide HB0), .inl ⟨ds, k, unhide HE, rfl, rfl, (own_row (unhide HR) (by rw [pOf_len, unhide HD]) _ (by have := unhide HD; omega)).wide (unhide HB0).size (Nat.le_refl _)⟩⟩
end Go.Proofs.Ytfodcnnaeakhfaa
