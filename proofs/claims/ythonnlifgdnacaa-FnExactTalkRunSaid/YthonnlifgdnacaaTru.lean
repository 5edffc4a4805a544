/- A run of acts, by the specification. -/
import Derived.Test.YthonnlifgdnacaaAcs
namespace Go.Proofs.Ythonnlifgdnacaa
open Go.RowKit
set_option maxHeartbeats 4000000
set_option maxRecDepth 20000
set_option linter.unusedVariables false
/-- what a run answers -/
def tkO (W : World) (lv cv : Value) (al : List Ta) : Prop :=
  (tkC al = 0 → twV W lv (runF al tw0) ∧ intsV W cv (codesF al tw0)) ∧ (tkC al ≠ 0 → (∃ A c, lv = .slice A 0 c) ∧ ∃ A c, cv = .slice A 0 c)
theorem tkO_bad {W : World} {al : List Ta} {A A' : Option Addr} {c c' : Nat} (h : tkC al ≠ 0) : tkO W (.slice A 0 c) (.slice A' 0 c') al :=
  ⟨fun e => absurd e h, fun _ => ⟨⟨_, _, rfl⟩, _, _, rfl⟩⟩
theorem make8 (w : World) : (Instr.makeSlice 25 (.int .i64 2) (.int .i64 2)).run Try.prog w = .ok (.slice (some ⟨w.heap.size, 0, none⟩) 2 2) (w.alloc (.cells #[.slice none 0 0, .int .i64 0, .int .i64 0, .slice none 0 0, .slice none 0 0, .int .i64 0, .int .i64 0, .slice none 0 0] 33)) := by
  obtain ⟨k0, hk0, kz0, kz1, kz2⟩ := info_parts info33
  have h := run_makeSlice w (P := Try.prog) 25 33 k0 _ Try.underlying25 hk0 kz0 .i64 .i64 2 2 (by omega) (Int.le_refl _) (by rw [kz1]; omega) (by rw [kz2]; omega) (by omega)
  rw [kz1] at h
  have hm : madeCells (Value.agg #[.slice none 0 0, .int .i64 0, .int .i64 0, .slice none 0 0]).cells (Int.toNat 2 * 4) = #[.slice none 0 0, .int .i64 0, .int .i64 0, .slice none 0 0, .slice none 0 0, .int .i64 0, .int .i64 0, .slice none 0 0] := by kernel_rfl
  rw [hm] at h
  exact h
theorem tw0_row (w : World) : twV (w.alloc (.cells #[.slice none 0 0, .int .i64 0, .int .i64 0, .slice none 0 0, .slice none 0 0, .int .i64 0, .int .i64 0, .slice none 0 0] 33)) (.slice (some ⟨w.heap.size, 0, none⟩) 2 2) tw0 :=
  ⟨_, _, _, _, _, _, [], rfl, Nat.le_refl _, heap_alloc_new w _, ⟨_, _, rfl, strs_nil _, strs_nil _⟩, ⟨_, _, _, rfl, Nat.le_refl _⟩, ⟨_, _, rfl, strs_nil _, strs_nil _⟩, ⟨_, _, _, rfl, Nat.le_refl _⟩⟩
theorem offB_nil (b : Nat) : offB b (.slice none 0 0) := fun A n c e hn hk => by cases hk
theorem own_kept {w w' : World} {base e size : Nat} {v : Value} {n : Nat} {xs : List Value} (h : w.ownsRow base e size v n xs) (hb : Below w.heap.size w w') : w'.ownsRow base e size v n xs :=
  h.kept (row := none) ⟨hb.os, hb.tape, hb.output, hb.size, fun k hk _ => hb.block k hk⟩ (by cases v with | slice A n c => cases A <;> simp [Value.ownBlock] | _ => exact .inl rfl)
/-- a store into the codes' block leaves two peers as they were -/
theorem twV_push {W W' : World} {v : Value} {z : Tw} {g1 : Nat} {cs : Array Value} (h : twV W v z) (ho : offT g1 W v) (hg : W.heap[g1]? = some (.cells cs 3 (0, 0))) (hk : ∀ k, k < W.heap.size → k ≠ g1 → W'.heap[k]? = W.heap[k]?) (hs : W.heap.size ≤ W'.heap.size) : twV W' v z := by
  obtain ⟨g, c, q0, i0, q1, i1, rest, rfl, hc, hr, hp, kp, hq, kq⟩ := h
  obtain ⟨o0, o3, o4, o7⟩ := ho.row hr
  have hne : g ≠ g1 := fun e => by
    subst e
    have := Option.some.inj (hr.symm.trans hg)
    simp at this
  have st : ∀ {u : Value} {xs : List ByteArray}, strsV W u xs → offB g1 u → strsV W' u xs := fun {u xs} hu ho => by
    obtain ⟨A, cap, rfl, hx⟩ := hu
    refine ⟨A, cap, rfl, fun hn => ?_⟩
    obtain ⟨b, off, rfl, hl, hx⟩ := hx hn
    have : b ≠ g1 := fun e => ho _ _ _ rfl hn (by rw [← e]; rfl)
    refine ⟨b, off, rfl, Nat.lt_of_lt_of_le hl hs, fun j hj => ?_⟩
    rw [World.cell?_of_block (w := W) (hk b hl this)]
    exact hx j hj
  obtain ⟨a0, b0, e0, p1, p2⟩ := hp
  obtain ⟨rfl, rfl⟩ := peA_inj e0
  obtain ⟨a1, b1, e1, p3, p4⟩ := hq
  obtain ⟨rfl, rfl⟩ := peA_inj e1
  exact ⟨g, c, _, _, _, _, rest, rfl, hc, (hk g hr.lt hne).trans hr, ⟨_, _, rfl, st p1 o0, st p2 o3⟩, kp, ⟨_, _, rfl, st p3 o4, st p4 o7⟩, kq⟩
theorem offT_keep {W W' : World} {v : Value} {b g1 : Nat} {cs : Array Value} (h : offT b W v) (hg : W.heap[g1]? = some (.cells cs 3 (0, 0))) (hk : ∀ k, k < W.heap.size → k ≠ g1 → W'.heap[k]? = W.heap[k]?) : offT b W' v := by
  obtain ⟨g, c, q0, a1, a2, i0, q1, a5, a6, i1, rest, rfl, hr, h1⟩ := h
  have hne : g ≠ g1 := fun e => by
    subst e
    have := Option.some.inj (hr.symm.trans hg)
    simp at this
  exact ⟨g, c, q0, a1, a2, i0, q1, a5, a6, i1, rest, rfl, (hk g hr.lt hne).trans hr, h1⟩
theorem offT_size {W : World} {v : Value} {z : Tw} {b : Nat} (h : twV W v z) (hb : W.heap.size ≤ b) : offT b W v := by
  obtain ⟨g, c, q0, i0, q1, i1, rest, rfl, hc, hr, hp, kp, hq, kq⟩ := h
  obtain ⟨x1, x2⟩ := offP_parts (offP_old hp hb)
  obtain ⟨x3, x4⟩ := offP_parts (offP_old hq hb)
  exact ⟨g, c, _, _, _, _, _, _, _, _, rest, rfl, hr, x1, x2, x3, x4⟩
theorem run13 (v : Value) (al : List Ta) (w : World) (hv : actsV w v al) (hl : al.length ≤ maxLen) (ht : ∀ a ∈ al, a.t.size ≤ maxLen) :
    Calls Try.prog 13 #[v] w fun e w' => ∃ lv cv, e = .returned (.tuple #[lv, cv, .int .i64 (tkC al)]) ∧ tkO w' lv cv al ∧ Below w.heap.size w w' := by
  obtain ⟨A, cap, rfl, hc⟩ := hv
  have HC := hide hc
  have HT := hide ht
  clear hc ht
  obtain ⟨n, hnx⟩ : ∃ n, n = al.length := ⟨_, rfl⟩
  rw [← hnx] at HC hl ⊢
  have HN := hide hnx
  unfold maxLen at hl
  have n0 : (0 : Int) ≤ (n : Int) := by omega
  have n1 : (n : Int) ≤ 9223372036854775807 := by omega
  by_cases h1 : 4096 < n
  · have HR : Hid (tkC al = 2) := hide (by unfold tkC; rw [← hnx, if_pos h1])
    have h1' : (4096 : Int) < (n : Int) := by omega
    clear h1 hl hnx
    go_enter Try.func13, Try.ntmps13
    go_wp2
    go_ret3
    rw [unhide HR]
    exact ⟨_, _, rfl, tkO_bad (by rw [unhide HR]; decide), bl_al (bl_al (Below.refl _ _))⟩
  have h1' : (n : Int) ≤ 4096 := by omega
  by_cases h2 : 120 < n
  · have HR : Hid (tkC al = 6) := hide (by unfold tkC; rw [← hnx, if_neg h1, if_pos h2])
    have h2' : (120 : Int) < (n : Int) := by omega
    clear h1 h2 hl hnx
    go_enter Try.func13, Try.ntmps13
    go_wp2
    go_ret3
    rw [unhide HR]
    exact ⟨_, _, rfl, tkO_bad (by rw [unhide HR]; decide), bl_al (bl_al (Below.refl _ _))⟩
  have h2' : (n : Int) ≤ 120 := by omega
  have HS := hide (show ¬ 4096 < n ∧ ¬ 120 < n from ⟨h1, h2⟩)
  have mk := make8 w
  clear h1 h2 hl hnx
  go_enter Try.func13, Try.ntmps13
  go_wp2
  clear mk
  go_loopw [5, 6, 7] (fun lv cv i wr => ∃ (j g1 c1 : Nat), j ≤ n ∧ i = .int .i64 j ∧ twV wr lv (runF (al.take j) tw0) ∧ cv = .slice (some ⟨g1, 0, none⟩) j c1 ∧ wr.ownsRow w.heap.size 3 1 (.slice (some ⟨g1, 0, none⟩) j c1) j (ivs (codesF (al.take j) tw0)) ∧ offT g1 wr lv ∧ Below w.heap.size w wr ∧ ∀ k, k < j → (al.getD k ta0).t.size ≤ 65536) (fun _ _ i _ => n - (intOf i).toNat)
  case atStart =>
    have hr : row8 ((w.alloc (.cells #[.slice none 0 0, .int .i64 0, .int .i64 0, .slice none 0 0, .slice none 0 0, .int .i64 0, .int .i64 0, .slice none 0 0] 33)).alloc (.cells #[] 3)) w.heap.size (.slice none 0 0) (.int .i64 0) (.int .i64 0) (.slice none 0 0) (.slice none 0 0) (.int .i64 0) (.int .i64 0) (.slice none 0 0) [] := (show row8 (w.alloc (.cells #[.slice none 0 0, .int .i64 0, .int .i64 0, .slice none 0 0, .slice none 0 0, .int .i64 0, .int .i64 0, .slice none 0 0] 33)) w.heap.size (.slice none 0 0) (.int .i64 0) (.int .i64 0) (.slice none 0 0) (.slice none 0 0) (.int .i64 0) (.int .i64 0) (.slice none 0 0) [] from heap_alloc_new w _).below (bl_al (Below.refl _ _))
    exact ⟨0, w.heap.size + 1, 0, by omega, rfl, (tw0_row w).below (bl_al (Below.refl _ _)), rfl, (by have := World.ownsRow_made (base := w.heap.size) (e := 3) (size := 1) (w.alloc (.cells #[.slice none 0 0, .int .i64 0, .int .i64 0, .slice none 0 0, .slice none 0 0, .int .i64 0, .int .i64 0, .slice none 0 0] 33)) #[] 0 (by simp) (Nat.zero_le _) rfl; simpa [ivs, codesF] using this), ⟨w.heap.size, 2, _, _, _, _, _, _, _, _, [], rfl, hr, offB_nil _, offB_nil _, offB_nil _, offB_nil _⟩, bl_al (bl_al (Below.refl _ _)), fun k h => by omega⟩
  case round =>
    obtain ⟨j, g1, c1, hj, rfl, htw, rfl, hown, hot, hbl, hsm⟩ := hrel
    have TW := hide htw
    have OWN := hide hown
    have OT := hide hot
    have HB := hide hbl
    have SM := hide hsm
    clear htw hown hot hbl hsm
    by_cases hlt : j < n
    · obtain ⟨b, off, hA, hb, hcell⟩ := unhide HC (by omega)
      subst hA
      have q1 : (j : Int) < (n : Int) := by omega
      have q0 : (0 : Int) ≤ (j : Int) := by omega
      have ha := (hcell j hlt).below (unhide HB) hb
      have hmem : al.getD j ta0 ∈ al := by rw [List.getD_eq_getElem?_getD, List.getElem?_eq_getElem (by rw [← unhide HN]; exact hlt)]; exact List.getElem_mem _
      have hsz := unhide HT _ hmem
      have HJ := hide hlt
      have HM := hide hmem
      obtain ⟨a, hga⟩ : ∃ a, a = al.getD j ta0 := ⟨_, rfl⟩
      rw [← hga] at ha hsz
      have GA := hide hga
      clear hga hcell hb hlt hj hmem
      obtain ⟨x0, x1, x2, x3, x4⟩ := ha
      have z0 : (0 : Int) ≤ (a.t.size : Int) := by omega
      have z1 : (a.t.size : Int) ≤ 9223372036854775807 := by unfold maxLen at hsz; omega
      by_cases hbig : 65536 < a.t.size
      · have hbig' : (65536 : Int) < (a.t.size : Int) := by omega
        have HR : Hid (tkC al = 2) := hide (by
          unfold tkC
          rw [← unhide HN, if_neg (unhide HS).1, if_neg (unhide HS).2, if_pos]
          rw [List.any_eq_true]
          exact ⟨_, unhide HM, by rw [← unhide GA]; exact decide_eq_true hbig⟩)
        clear hbig hsz
        go_wp2
        go_ret3
        rw [unhide HR]
        exact ⟨_, _, rfl, tkO_bad (by rw [unhide HR]; decide), bl_al (bl_al (unhide HB))⟩
      have hsm' : (a.t.size : Int) ≤ 65536 := by omega
      obtain ⟨ok1, ok2⟩ := run_ok (al.take j)
      have f1 := ok_few ok1
      have f2 := ok_few ok2
      have K := hide (step48 _ (runF (al.take j) tw0) a wr (unhide TW) ⟨by omega, by omega⟩ ⟨by omega, by omega⟩ hsz (by omega) (by omega) (by omega) (by omega))
      have LJ := hide (show (codesF (al.take j) tw0).length = j by rw [codesF_len, List.length_take]; have := unhide HJ; have := unhide HN; omega)
      have SM' : Hid (∀ k, k < j + 1 → (al.getD k ta0).t.size ≤ 65536) := hide (fun k hk => by
        rcases Nat.lt_or_ge k j with h | h
        · exact unhide SM k h
        · obtain rfl : k = j := by omega
          rw [← unhide GA]; omega)
      have RS : Hid (runF (al.take (j + 1)) tw0 = (stepF (runF (al.take j) tw0) a).1) := hide (by rw [take_snoc (by rw [← unhide HN]; exact unhide HJ), runF_snoc, unhide GA])
      have CS : Hid (codesF (al.take (j + 1)) tw0 = codesF (al.take j) tw0 ++ [(stepF (runF (al.take j) tw0) a).2]) := hide (by rw [take_snoc (by rw [← unhide HN]; exact unhide HJ), codesF_snoc, unhide GA])
      clear hbig hsz ok1 ok2 f1 f2 SM
      generalize stepF (runF (al.take j) tw0) a = st at *
      obtain ⟨z2, cd⟩ := st
      dsimp only at *
      go_wp2_with fail
      refine (unhide K).mono ?_
      rintro e w2 ⟨r2, rfl, t2, o2, b2⟩
      have lg1 := ((unhide OWN).lt g1 rfl)
      have T2 := hide t2
      have O2 := hide (o2 g1 lg1.2 (unhide OT))
      have OWN2 := hide (own_kept (unhide OWN) b2)
      have B2 := hide (bl_st b2 (unhide HB))
      clear b2 t2 o2 K lg1 TW OT OWN HB x0 x1 x2 x3 x4
      generalize hcz : codesF (al.take j) tw0 = cz at *
      go_wp2_with (at_builtin; refine wpList_pushI w2 rfl _ _ rfl w.heap.size j g1 c1 cz rfl (unhide OWN2) w2.heap.size rfl cd rfl (by omega) (unhide B2).size ?_
                   intro g2 c2 w4 hbe hkp hsz hrow hlo
                   have W4 := hide hbe
                   have W4k := hide hkp
                   have W4s := hide hsz
                   have W4r := hide hrow
                   have W4l := hide hlo
                   clear hbe hkp hsz hrow hlo)
      go_roundw
      case rel =>
        have lg1 := ((unhide OWN2).lt g1 rfl)
        obtain ⟨_, ⟨e0, _⟩ | ⟨gg, cc, cur, e0, _, hcur, _⟩⟩ := unhide OWN2
        · cases e0
        have eg : g1 = gg := Option.some.inj (show some g1 = some gg from congrArg Value.ownBlock e0)
        subst eg
        have tw4 := twV_push (unhide T2) (unhide O2) hcur (unhide W4k) (unhide W4s)
        refine ⟨j + 1, g2, c2, unhide HJ, by go_num, by rw [unhide RS]; exact tw4, rfl, by rw [unhide CS]; exact unhide W4r, ?_, unhide W4 _ _ (unhide B2) (Nat.le_refl _) (unhide B2).size, unhide SM'⟩
        rcases unhide W4l with e | e
        · rw [e]; exact offT_keep (unhide O2) hcur (unhide W4k)
        · exact offT_keep (offT_size (unhide T2) e) hcur (unhide W4k)
      case measure => have := unhide HJ; simp [intOf]; omega
    · obtain rfl : j = n := by omega
      have hj0 : al.take j = al := by rw [unhide HN]; exact List.take_length
      have HR : Hid (tkC al = 0) := hide (by
        unfold tkC
        rw [← unhide HN, if_neg (unhide HS).1, if_neg (unhide HS).2, if_neg]
        rw [List.any_eq_true]
        rintro ⟨a, ha, h⟩
        obtain ⟨k, hk, rfl⟩ := List.getElem_of_mem ha
        have := unhide SM k (by rw [unhide HN]; exact hk)
        rw [List.getD_eq_getElem?_getD, List.getElem?_eq_getElem hk] at this
        have := of_decide_eq_true h
        simp at *
        omega)
      have OK := hide (run_ok al)
      rw [hj0] at TW OWN
      have FX : Hid (peFew (runF al tw0).x) := hide (by have := ok_few (unhide OK).1; exact ⟨by omega, by omega⟩)
      have FY : Hid (peFew (runF al tw0).y) := hide (by have := ok_few (unhide OK).2; exact ⟨by omega, by omega⟩)
      have KO := hide (fun (p : Pe) u W (h : peV W u p) (hf : peFew p) => own49 u p W h hf)
      clear hlt hj0 hj OT SM
      obtain ⟨z, hz⟩ : ∃ z, z = runF al tw0 := ⟨_, rfl⟩
      rw [← hz] at TW FX FY
      have HZ := hide hz
      clear hz
      obtain ⟨g, c, q0, i0, q1, i1, rest, rfl, hc, hr, hp, kp, hq, kq⟩ := unhide TW
      obtain ⟨A0, r0, B0, r1, e0⟩ := hp.slices
      obtain ⟨A1, r2, B1, r3, e1⟩ := hq.slices
      obtain ⟨rfl, rfl⟩ := peA_inj e0
      obtain ⟨rfl, rfl⟩ := peA_inj e1
      have R8 := hide hr
      have HPx := hide hp
      have HPy := hide hq
      clear e0 e1 hr hp hq kp kq TW hc
      go_wp2
      refine wp_region_late (S := fun W' => row8 W' g (.slice A0 z.x.q.length r0) (.int .i64 z.x.s) (.int .i64 z.x.e) (.slice B0 z.x.i.length r1) (.slice A1 z.y.q.length r2) (.int .i64 z.y.s) (.int .i64 z.y.e) (.slice B1 z.y.i.length r3) rest) (late := []) (by kernel_rfl) ?_
      have hS0 : Below wr.heap.size wr { wr with drawn := wr.drawn + 1 } := below_drewN (Below.refl _ _) 1
      have SF := (unhide R8).below hS0
      refine wpAnyL_take (i := 0) (oi := { dst := some 51, op := Op.move (Operand.tmp 5), type := 25, pos := "l15_talk.go:141", after := #[], guard := none }) (v := ?_) rfl (by kernel_rfl) (by kernel_rfl) (by kernel_rfl) (by kernel_rfl) (fun _ _ _ h => h) (Or.inl ⟨by rfl, ?_⟩) SF ?_
      rotate_left
      · intro W hSw
        have q1 := hSw.c0
        have q2 := hSw.c1
        have q3 := hSw.c2
        have q4 := hSw.c3
        have q5 := hSw.c4
        have q6 := hSw.c5
        have q7 := hSw.c6
        have q8 := hSw.c7
        go_simp
        try with_reducible rfl
      simp only [Act.put, List.setIfInBounds_toArray, List.set_cons_zero, List.set_cons_succ]
      refine wpAnyL_take (i := 1) (oi := { dst := some 52, op := Op.indexAddr 25 (Operand.tmp 51) (Operand.const (Value.int IntKind.i64 0)), type := 0, pos := "l15_talk.go:141", after := #[{ on := 0, ground := Ground.data }], guard := none }) (v := ?_) rfl (by kernel_rfl) (by kernel_rfl) (by kernel_rfl) (by kernel_rfl) (fun _ _ _ h => h) (Or.inl ⟨by rfl, ?_⟩) SF ?_
      rotate_left
      · intro W hSw
        have q1 := hSw.c0
        have q2 := hSw.c1
        have q3 := hSw.c2
        have q4 := hSw.c3
        have q5 := hSw.c4
        have q6 := hSw.c5
        have q7 := hSw.c6
        have q8 := hSw.c7
        go_simp
        try with_reducible rfl
      simp only [Act.put, List.setIfInBounds_toArray, List.set_cons_zero, List.set_cons_succ]
      refine wpAnyL_take (i := 2) (oi := { dst := some 53, op := Op.load 33 (Operand.tmp 52), type := 33, pos := "l15_talk.go:141", after := #[{ on := 1, ground := Ground.data }], guard := none }) (v := ?_) rfl (by kernel_rfl) (by kernel_rfl) (by kernel_rfl) (by kernel_rfl) (fun _ _ _ h => h) (Or.inl ⟨by rfl, ?_⟩) SF ?_
      rotate_left
      · intro W hSw
        have q1 := hSw.c0
        have q2 := hSw.c1
        have q3 := hSw.c2
        have q4 := hSw.c3
        have q5 := hSw.c4
        have q6 := hSw.c5
        have q7 := hSw.c6
        have q8 := hSw.c7
        go_simp
        try with_reducible rfl
      simp only [Act.put, List.setIfInBounds_toArray, List.set_cons_zero, List.set_cons_succ]
      refine wpAnyL_take (i := 4) (oi := { dst := some 55, op := Op.move (Operand.tmp 5), type := 25, pos := "l15_talk.go:141", after := #[], guard := none }) (v := ?_) rfl (by kernel_rfl) (by kernel_rfl) (by kernel_rfl) (by kernel_rfl) (fun _ _ _ h => h) (Or.inl ⟨by rfl, ?_⟩) SF ?_
      rotate_left
      · intro W hSw
        have q1 := hSw.c0
        have q2 := hSw.c1
        have q3 := hSw.c2
        have q4 := hSw.c3
        have q5 := hSw.c4
        have q6 := hSw.c5
        have q7 := hSw.c6
        have q8 := hSw.c7
        go_simp
        try with_reducible rfl
      simp only [Act.put, List.setIfInBounds_toArray, List.set_cons_zero, List.set_cons_succ]
      refine wpAnyL_take (i := 5) (oi := { dst := some 56, op := Op.indexAddr 25 (Operand.tmp 55) (Operand.const (Value.int IntKind.i64 1)), type := 0, pos := "l15_talk.go:141", after := #[{ on := 4, ground := Ground.data }], guard := none }) (v := ?_) rfl (by kernel_rfl) (by kernel_rfl) (by kernel_rfl) (by kernel_rfl) (fun _ _ _ h => h) (Or.inl ⟨by rfl, ?_⟩) SF ?_
      rotate_left
      · intro W hSw
        have q1 := hSw.c0
        have q2 := hSw.c1
        have q3 := hSw.c2
        have q4 := hSw.c3
        have q5 := hSw.c4
        have q6 := hSw.c5
        have q7 := hSw.c6
        have q8 := hSw.c7
        go_simp
        try with_reducible rfl
      simp only [Act.put, List.setIfInBounds_toArray, List.set_cons_zero, List.set_cons_succ]
      refine wpAnyL_take (i := 6) (oi := { dst := some 57, op := Op.load 33 (Operand.tmp 56), type := 33, pos := "l15_talk.go:141", after := #[{ on := 5, ground := Ground.data }], guard := none }) (v := ?_) rfl (by kernel_rfl) (by kernel_rfl) (by kernel_rfl) (by kernel_rfl) (fun _ _ _ h => h) (Or.inl ⟨by rfl, ?_⟩) SF ?_
      rotate_left
      · intro W hSw
        have q1 := hSw.c0
        have q2 := hSw.c1
        have q3 := hSw.c2
        have q4 := hSw.c3
        have q5 := hSw.c4
        have q6 := hSw.c5
        have q7 := hSw.c6
        have q8 := hSw.c7
        go_simp
        try with_reducible rfl
      simp only [Act.put, List.setIfInBounds_toArray, List.set_cons_zero, List.set_cons_succ]
      refine wpAnyL_take (i := 9) (oi := { dst := some 60, op := Op.move (Operand.tmp 6), type := 26, pos := "l15_talk.go:141", after := #[{ on := 10, ground := Ground.gcOnly Departure.lateStores }], guard := none }) (v := ?_) rfl (by kernel_rfl) (by kernel_rfl) (by kernel_rfl) (by kernel_rfl) (fun _ _ _ h => h) (Or.inl ⟨by rfl, ?_⟩) SF ?_
      rotate_left
      · intro W hSw
        go_simp
        try with_reducible rfl
      simp only [Act.put, List.setIfInBounds_toArray, List.set_cons_zero, List.set_cons_succ]
      refine wpAnyL_one (i := 3) (by kernel_rfl) ?_
      refine wpOp_step (o := { dst := some 54, op := Op.call { callee := Callee.value (Operand.func 49), args := #[Operand.tmp 53], argTypes := #[33] }, type := 33, pos := "l15_talk.go:141", after := #[{ on := 2, ground := Ground.data }], guard := none }) rfl fun K' hK => step_enterW (by rfl) 49 #[peA (.slice A0 z.x.q.length r0) z.x.s z.x.e (.slice B0 z.x.i.length r1)] (by go_simp) ((unhide KO _ _ _ ((unhide HPx).below hS0) (unhide FX)).mono ?_)
      rintro e w3 ⟨r3, rfl, o3, b3⟩
      have s3 := bl_st b3 hS0
      have S3 := (unhide R8).below s3
      obtain ⟨X1, X2, X3, X4, hre⟩ := o3.pe.slices
      subst hre
      clear b3
      refine ⟨_, rfl, hK _ _ ⟨(fun _ => S3), ?_⟩⟩
      simp only [Act.put, List.setIfInBounds_toArray, List.set_cons_zero, List.set_cons_succ]
      refine wpAnyL_one (i := 7) (by kernel_rfl) ?_
      refine wpOp_step (o := { dst := some 58, op := Op.call { callee := Callee.value (Operand.func 49), args := #[Operand.tmp 57], argTypes := #[33] }, type := 33, pos := "l15_talk.go:141", after := #[{ on := 6, ground := Ground.data }, { on := 3, ground := Ground.chain }], guard := none }) rfl fun K' hK => step_enterW (by rfl) 49 #[peA (.slice A1 z.y.q.length r2) z.y.s z.y.e (.slice B1 z.y.i.length r3)] (by go_simp) ((unhide KO _ _ _ ((unhide HPy).below s3) (unhide FY)).mono ?_)
      rintro e w4 ⟨r4, rfl, o4, b4⟩
      have s4 := bl_st b4 s3
      have S4 := (unhide R8).below s4
      have o3 := o3.below b4
      obtain ⟨Y1, Y2, Y3, Y4, hre⟩ := o4.pe.slices
      subst hre
      clear b4
      refine ⟨_, rfl, hK _ _ ⟨(fun _ => S4), ?_⟩⟩
      simp only [Act.put, List.setIfInBounds_toArray, List.set_cons_zero, List.set_cons_succ]
      refine wpAnyL_one (i := 8) (by kernel_rfl) ?_
      refine wpOp_step (o := { dst := some 59, op := Op.buildSlice 25 2 #[(0, Operand.tmp 54), (1, Operand.tmp 58)], type := 25, pos := "l15_talk.go:141", after := #[{ on := 3, ground := Ground.data }, { on := 7, ground := Ground.data }], guard := none }) rfl fun K' hK => step_valueW (by rfl) (.slice (some ⟨w4.heap.size, 0, none⟩) 2 2) (w4.alloc (.cells #[.slice X1 z.x.q.length X2, .int .i64 z.x.s, .int .i64 z.x.e, .slice X3 z.x.i.length X4, .slice Y1 z.y.q.length Y2, .int .i64 z.y.s, .int .i64 z.y.e, .slice Y3 z.y.i.length Y4] 33)) (by go_simp) ?_
      have s5 : Below wr.heap.size wr (w4.alloc (.cells #[.slice X1 z.x.q.length X2, .int .i64 z.x.s, .int .i64 z.x.e, .slice X3 z.x.i.length X4, .slice Y1 z.y.q.length Y2, .int .i64 z.y.s, .int .i64 z.y.e, .slice Y3 z.y.i.length Y4] 33)) := bl_al s4
      have S5 := (unhide R8).below s5
      refine hK _ _ ⟨(fun _ => S5), ?_⟩
      simp only [Act.put, List.setIfInBounds_toArray, List.set_cons_zero, List.set_cons_succ]
      refine wpAnyL_take (i := 10) (oi := { dst := some 2, op := Op.assign (Operand.tmp 59), type := 25, pos := "l15_talk.go:141", after := #[{ on := 8, ground := Ground.data }, { on := 7, ground := Ground.chain }, { on := 0, ground := Ground.phase }, { on := 1, ground := Ground.phase }, { on := 2, ground := Ground.phase }, { on := 3, ground := Ground.phase }, { on := 4, ground := Ground.phase }, { on := 5, ground := Ground.phase }, { on := 6, ground := Ground.phase }, { on := 7, ground := Ground.phase }, { on := 8, ground := Ground.phase }, { on := 9, ground := Ground.textOnly Departure.lateStores }], guard := none }) (v := ?_) rfl (by kernel_rfl) (by kernel_rfl) (by kernel_rfl) (by kernel_rfl) (fun _ _ _ h => h) (Or.inl ⟨by rfl, ?_⟩) S5 ?_
      rotate_left
      · intro W hSw
        go_simp
        try with_reducible rfl
      simp only [Act.put, List.setIfInBounds_toArray, List.set_cons_zero, List.set_cons_succ]
      refine wpAnyL_take (i := 11) (oi := { dst := some 3, op := Op.assign (Operand.tmp 60), type := 26, pos := "l15_talk.go:141", after := #[{ on := 9, ground := Ground.data }, { on := 10, ground := Ground.chain }, { on := 0, ground := Ground.phase }, { on := 1, ground := Ground.phase }, { on := 2, ground := Ground.phase }, { on := 3, ground := Ground.phase }, { on := 4, ground := Ground.phase }, { on := 5, ground := Ground.phase }, { on := 6, ground := Ground.phase }, { on := 7, ground := Ground.phase }, { on := 8, ground := Ground.phase }, { on := 9, ground := Ground.phase }, { on := 10, ground := Ground.phase }], guard := none }) (v := ?_) rfl (by kernel_rfl) (by kernel_rfl) (by kernel_rfl) (by kernel_rfl) (fun _ _ _ h => h) (Or.inl ⟨by rfl, ?_⟩) S5 ?_
      rotate_left
      · intro W hSw
        go_simp
        try with_reducible rfl
      simp only [Act.put, List.setIfInBounds_toArray, List.set_cons_zero, List.set_cons_succ]
      refine wpAnyL_take (i := 12) (oi := { dst := some 4, op := Op.assign (Operand.const (Value.int IntKind.i64 0)), type := 3, pos := "l15_talk.go:141", after := #[{ on := 11, ground := Ground.chain }, { on := 0, ground := Ground.phase }, { on := 1, ground := Ground.phase }, { on := 2, ground := Ground.phase }, { on := 3, ground := Ground.phase }, { on := 4, ground := Ground.phase }, { on := 5, ground := Ground.phase }, { on := 6, ground := Ground.phase }, { on := 7, ground := Ground.phase }, { on := 8, ground := Ground.phase }, { on := 9, ground := Ground.phase }, { on := 10, ground := Ground.phase }, { on := 11, ground := Ground.phase }], guard := none }) (v := ?_) rfl (by kernel_rfl) (by kernel_rfl) (by kernel_rfl) (by kernel_rfl) (fun _ _ _ h => h) (Or.inl ⟨by rfl, ?_⟩) S5 ?_
      rotate_left
      · intro W hSw
        go_simp
        try with_reducible rfl
      simp only [Act.put, List.setIfInBounds_toArray, List.set_cons_zero, List.set_cons_succ]
      refine wpAnyL_done (by kernel_rfl) ?_ _
      have R5 : row8 (w4.alloc (.cells #[.slice X1 z.x.q.length X2, .int .i64 z.x.s, .int .i64 z.x.e, .slice X3 z.x.i.length X4, .slice Y1 z.y.q.length Y2, .int .i64 z.y.s, .int .i64 z.y.e, .slice Y3 z.y.i.length Y4] 33)) w4.heap.size (.slice X1 z.x.q.length X2) (.int .i64 z.x.s) (.int .i64 z.x.e) (.slice X3 z.x.i.length X4) (.slice Y1 z.y.q.length Y2) (.int .i64 z.y.s) (.int .i64 z.y.e) (.slice Y3 z.y.i.length Y4) [] := heap_alloc_new w4 _
      have BA : Below w4.heap.size w4 (w4.alloc (.cells #[.slice X1 z.x.q.length X2, .int .i64 z.x.s, .int .i64 z.x.e, .slice X3 z.x.i.length X4, .slice Y1 z.y.q.length Y2, .int .i64 z.y.s, .int .i64 z.y.e, .slice Y3 z.y.i.length Y4] 33)) := bl_al (Below.refl _ _)
      have V3 := (o3.below BA).pe
      have V4 := (o4.below BA).pe
      have C3 := o3.cap
      have C4 := o4.cap
      have FIN : Hid (twV (w4.alloc (.cells #[.slice X1 z.x.q.length X2, .int .i64 z.x.s, .int .i64 z.x.e, .slice X3 z.x.i.length X4, .slice Y1 z.y.q.length Y2, .int .i64 z.y.s, .int .i64 z.y.e, .slice Y3 z.y.i.length Y4] 33)) (.slice (some ⟨w4.heap.size, 0, none⟩) 2 2) z) := hide ⟨_, _, _, _, _, _, [], rfl, Nat.le_refl _, R5, V3, C3, V4, C4⟩
      have CF := hide ((ints_row (by rw [codesF_len]; exact unhide HN) (unhide OWN)).below s5)
      have BF := hide (bl_st s5 (unhide HB))
      clear s5 S5 s4 S4 s3 S3 o3 o4 R5 BA V3 V4 C3 C4 SF hS0
      generalize w4.alloc (.cells #[.slice X1 z.x.q.length X2, .int .i64 z.x.s, .int .i64 z.x.e, .slice X3 z.x.i.length X4, .slice Y1 z.y.q.length Y2, .int .i64 z.y.s, .int .i64 z.y.e, .slice Y3 z.y.i.length Y4] 33) = w5 at *
      go_wp2
      go_ret3
      rw [unhide HR]
      exact ⟨_, _, rfl, ⟨fun _ => ⟨by rw [← unhide HZ]; exact unhide FIN, unhide CF⟩, fun h => absurd (unhide HR) h⟩, unhide BF⟩
end Go.Proofs.Ythonnlifgdnacaa
