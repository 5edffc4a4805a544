/- BlameHop, the program's side: the loop over the iterator. -/
import Derived.Test.YtecgfkfifocbaaaHnd
import Derived.Test.YtecgfkfifocbaaaBli
namespace Go.Proofs.Ytecgfkfifocbaaa
open Go.RowKit
set_option maxHeartbeats 4000000
set_option maxRecDepth 20000
attribute [local go_sem] Oper.semAt_some
theorem hand_stops (N n Bf : Nat) (A : Option Addr) (cap : Nat) (ts : List ByteArray) (hN : N = ts.length) (w : World) (hBf : Bf < w.heap.size) (hc : w.cell? ⟨Bf, 0, none⟩ = some (.slice A N cap)) (hv : strsV w (.slice A N cap) ts) (hn : N ≤ 2097152) (h1 : 1 ≤ n) :
    SeqStopsK Fence.wide n Try.prog 39 #[.pointer (some ⟨Bf, 0, none⟩)] (encs (N := N) ts) (Below w.heap.size) (fun ys => ys.map (·.1) = List.range (N - 1)) (fun pre => pre.map (·.1) = List.range pre.length) N w := by
  intro l J Jx W hW hJ _ hY h0
  refine hand39 N n l Bf w.heap.size A cap ts hN J Jx hY W hJ hBf ((hW.cell (p := ⟨Bf, 0, none⟩) hBf).trans hc) (fun h => ?_) h0 hn h1
  obtain ⟨A', cap', e, hs⟩ := hv
  injection e with e1 e2 e3
  subst e1
  obtain ⟨b, off, hA, hb, hcell⟩ := hs (by omega)
  exact ⟨b, off, hA, hb, fun i hi => (hW.cell (p := ⟨b, off + i, none⟩) hb).trans (hcell i (by omega))⟩
theorem row_kept {W W' : World} {g : Nat} {cs : Array Value} {t : TypeId} {m : Nat × Nat} {row : Option Nat} {B : Nat} (h : W.heap[g]? = some (.cells cs t m)) (hg : W.grownBy W' row) (hr : ∀ r, row = some r → B ≤ r ∧ ∃ o : Obj, W.heap[r]? = some o ∧ o.isCells = false) : W'.heap[g]? = some (.cells cs t m) := by
  refine (hg.block g (Array.getElem?_eq_some_iff.1 h).1 (fun e => ?_)).trans h
  obtain ⟨_, o, ho, hc⟩ := hr g e.symm
  rw [h] at ho
  cases ho
  cases hc
theorem results_cells {P : Program} {fn : Func} {p u : Tmp} {ty tz : TypeId} (h : fn.results = #[.cell p ty, .cell u tz]) (tmps : Array Value) (w : World) (g g2 : Nat) (t : TypeId) (cs : Array Value) (fr : Nat × Nat) (d : TypeDesc) (x : Value)
    (hp : tmps.getD p undef = .pointer (some ⟨g, 0, none⟩)) (hx : tmps.getD u undef = .pointer (some ⟨g2, 0, none⟩)) (hg : w.heap[g]? = some (.cells cs t fr)) (hz : (loadVar tz ⟨g2, 0, none⟩).run P w = .ok x w)
    (hu : P.underlying ty = some d) (hd : (match d with | .struct _ | .array _ _ => true | _ => false) = true) (hi : (P.info? ty).map (·.size) = some cs.size) :
    (results fn tmps).run P w = .ok (.tuple #[.agg cs, x]) w := by
  have e : (results fn tmps).run P w = ((asAddr (tmps.getD p undef)).run P w).andThen fun a w1 => ((loadVar ty a).run P w1).andThen fun v w2 => ((asAddr (tmps.getD u undef)).run P w2).andThen fun b w3 => ((loadVar tz b).run P w3).andThen fun x w4 => .ok (.tuple #[v, x]) w4 := by
    simp only [results, h]
    simp [Sem.run_bind, Result.andThen]
  rw [e, hp, hx]
  simp [asAddr, run_loadVar_row w g t ty cs fr d hg hu hd hi, hz]
theorem load3 (w : World) (g : Nat) (c : Int) (h : w.cell? ⟨g, 0, none⟩ = some (.int .i64 c)) : (loadVar 3 ⟨g, 0, none⟩).run Try.prog w = .ok (.int .i64 c) w := by
  simp [go_sem, h]
theorem blF_first (P : Nat → Bool) (k : Nat) (hk : P k = true) : ∀ (f h : Nat), (∀ i, h ≤ i → i < k → P i = false) → h ≤ k → k < h + f → blF P f h = ((k : Int), true)
  | 0, h, _, h1, h2 => by omega
  | f + 1, h, hg, h1, h2 => by
    rw [blF]
    by_cases e : h = k
    · subst e; rw [if_pos hk]
    · rw [hg h (Nat.le_refl _) (by omega), if_neg (by decide)]
      exact blF_first P k hk f (h + 1) (fun i hi => hg i (by omega)) (by omega) (by omega)
theorem blF_none (P : Nat → Bool) : ∀ (f h : Nat), (∀ i, h ≤ i → i < h + f → P i = false) → blF P f h = (0, false)
  | 0, _, _ => rfl
  | f + 1, h, hg => by
    rw [blF, hg h (Nat.le_refl _) (by omega), if_neg (by decide)]
    exact blF_none P f (h + 1) (fun i h1 h2 => hg i (by omega) (by omega))
theorem bC_zero {ts : List ByteArray} {xss : List (List ByteArray)} (h : bC ts xss = 0) : ¬ (4096 < ts.length ∨ 4096 < xss.length) ∧ bOK ts xss = true := by
  unfold bC at h
  by_cases h1 : 4096 < ts.length ∨ 4096 < xss.length
  · rw [if_pos h1] at h; exact absurd h (by decide)
  · rw [if_neg h1] at h
    refine ⟨h1, ?_⟩
    cases hb : bOK ts xss
    · rw [hb] at h; exact absurd h (by decide)
    · rfl
theorem bOK_len {ts : List ByteArray} {xss : List (List ByteArray)} (h : bOK ts xss = true) : xss.length ≤ 5 ∧ ts.length = xss.length := by
  unfold bOK at h
  simp only [Bool.and_eq_true, decide_eq_true_iff] at h
  exact h.1.1
/-- between two rounds: no hop so far is to be blamed -/
def IB {N : Nat} (ts : List ByteArray) (xss : List (List ByteArray)) (W0 : World) (pre : List (Hp N)) (W : World) : Prop := (∀ y ∈ pre, badH ts xss y.1 = false) ∧ Below W0.heap.size W0 W
/-- behind a round that has left -/
def IxB {N : Nat} (ts : List ByteArray) (xss : List (List ByteArray)) (w : World) (c : Code) (pre : List (Hp N)) (W : World) : Prop :=
  (c = .ret ∧ ∃ p x, pre = p ++ [x] ∧ (∀ y ∈ p, badH ts xss y.1 = false) ∧ badH ts xss x.1 = true ∧ W.heap[w.heap.size + 1]? = some (.cells #[.int .i64 ((x.1 : Nat) : Int), .bool true] 32 (0, 0)) ∧ W.heap[w.heap.size + 1 + 1]? = some (.cells #[.int .i64 0] 3 (0, 0))) ∧ Below w.heap.size w W
/-- the frame within a round -/
def frB {N : Nat} (v vb : Value) (g bf : Nat) (ts : List ByteArray) (x : Hp N) (Bx : Nat) : Act :=
  { tmps := #[v, vb, undef, .pointer (some ⟨g, 0, none⟩), .pointer (some ⟨g + 1, 0, none⟩), .pointer (some ⟨g + 1 + 1, 0, none⟩), .int .i64 0, .int .i64 ((x.1 : Nat) : Int), .pointer (some ⟨Bx, 0, none⟩), v, vb, .int .i64 0, .int .i64 0, .bool false, undef, undef, v, .func (.func 39) #[] #[.pointer (some ⟨bf, 0, none⟩)], .int .i64 ((x.1 : Nat) : Int), .agg #[.string (ts.getD x.1 noS), .string (ts.getD (x.1 + 1) noS)], undef, undef, undef, undef, undef, undef, undef, undef, undef, undef, undef, undef, undef, undef, undef, undef, undef, undef, undef, undef, undef], defers := [] }
def AxB {N : Nat} (v vb : Value) (g bf : Nat) (ts : List ByteArray) (m : Nat) (x : Hp N) (a' : Act) (W : World) : Prop :=
  ∃ Bx, m ≤ Bx ∧ W.heap[Bx]? = some (.cells #[.string (ts.getD x.1 noS), .string (ts.getD (x.1 + 1) noS)] 52 (0, 0)) ∧ a' = frB v vb g bf ts x Bx
theorem keeps_drewN (W : World) (k : Nat) : KeepsOthers W (W.drewN k) := ⟨Nat.le_refl _, fun _ _ h _ => h⟩
theorem blame14 (v vb : Value) (ts : List ByteArray) (xss : List (List ByteArray)) (w : World) (hv : strsV w v ts) (hb : lssV w vb xss) (hn : ts.length ≤ 1048576) (hf : fewL xss) :
    Calls Try.prog 14 #[v, vb] w (outB w ts xss) := by
  have HV := hide hv
  have HB := hide hb
  have HF := hide hf
  have HN := hide hn
  obtain ⟨A, ca, rfl, hc⟩ := hv
  obtain ⟨A2, cb, rfl, hd⟩ := hb
  have HD := hide hd
  clear hc hd hf hn
  obtain ⟨N, hN⟩ : ∃ N, N = ts.length := ⟨_, rfl⟩
  obtain ⟨M, hM⟩ : ∃ M, M = xss.length := ⟨_, rfl⟩
  have HEN := hide hN
  have HEM := hide hM
  rw [← hN] at HV HN ⊢
  rw [← hM] at HB HD ⊢
  clear hN hM
  obtain ⟨W3, hW3⟩ : ∃ W3, ((w.alloc (.cells #[.slice A2 M cb] 29)).alloc (.cells #[.int .i64 0, .bool false] 32)).alloc (.cells #[.int .i64 0] 3) = W3 := ⟨_, rfl⟩
  have B3 : Hid (Below w.heap.size w W3) := hide (by rw [← hW3]; exact bl_al (bl_al (bl_al (Below.refl _ _))))
  have G3 : Hid (W3.heap[w.heap.size]? = some (.cells #[.slice A2 M cb] 29 (0, 0))) := hide (by rw [← hW3, Below.heap_alloc _ _ _ (by simp; omega), Below.heap_alloc _ _ _ (by simp)]; exact heap_at _ _ _ rfl)
  have G4 : Hid (W3.heap[w.heap.size + 1]? = some (.cells #[.int .i64 0, .bool false] 32 (0, 0))) := hide (by rw [← hW3, Below.heap_alloc _ _ _ (by simp)]; exact heap_at _ _ _ (by simp))
  have G5 : Hid (W3.heap[w.heap.size + 1 + 1]? = some (.cells #[.int .i64 0] 3 (0, 0))) := hide (by rw [← hW3]; exact heap_at _ _ _ (by simp))
  have HW3 := hide hW3
  have hsz : W3.heap.size = w.heap.size + 3 := by rw [← hW3]; simp
  have HSZ := hide hsz
  clear hW3 hsz
  refine (callsIn_wide (n := 5)).1 ?_
  refine callsIn_of_wp_marks Try.func14 rfl trivial ?_ rfl
  simp only [Try.ntmps14, List.size_toArray, List.length_cons, List.length_nil, Nat.reduceAdd, Nat.reduceSub, Array.replicate_succ, Array.replicate_zero, List.push_toArray, List.append_toArray, List.nil_append, List.cons_append]
  gi_wp2_with fail
  rw [unhide HW3]
  refine ⟨trivial, (callsIn_wide.2 (code25 _ _ ts xss W3 ((unhide HV).below (unhide B3)) ((unhide HB).below (unhide B3)) (by rw [← unhide HEN]; exact unhide HN) (unhide HF))).mono ?_⟩
  rintro e w' ⟨rfl, hw'⟩
  have hw2 := hw'.symm
  subst hw2
  clear hw'
  by_cases hc : bC ts xss = 0
  · rw [hc]
    gi_wp2_with fail
    refine ⟨trivial, (callsIn_wide.2 (hand26 _ W3 ⟨_, _, _, rfl⟩)).mono ?_⟩
    rintro e w' ⟨rfl, hw'⟩
    have hw2 := hw'.symm
    subst hw2
    gi_wp2_with fail
    obtain ⟨h12, hok⟩ := bC_zero hc
    obtain ⟨hm5, hlen⟩ := bOK_len hok
    rw [← unhide HEN, ← unhide HEM] at hlen
    rw [← unhide HEM] at hm5
    subst hlen
    have HY := hide (fun w' hb => outB_yes (W := w) (w' := w') h12 hok hb)
    have n5 : (N : Int) ≤ 5 := by omega
    have n0 : (0 : Int) ≤ (N : Int) := by omega
    have B0 := hide (show Below w.heap.size w (W3.alloc (.cells #[.slice A N ca] 22)) from bl_al (unhide B3))
    have R3 := hide ((Below.heap_alloc W3 (.cells #[.slice A N ca] 22) _ (Array.getElem?_eq_some_iff.1 (unhide G3)).1).trans (unhide G3))
    have R4 := hide ((Below.heap_alloc W3 (.cells #[.slice A N ca] 22) _ (Array.getElem?_eq_some_iff.1 (unhide G4)).1).trans (unhide G4))
    have R5 := hide ((Below.heap_alloc W3 (.cells #[.slice A N ca] 22) _ (Array.getElem?_eq_some_iff.1 (unhide G5)).1).trans (unhide G5))
    have RF := hide (heap_at W3 (.cells #[.slice A N ca] 22) _ rfl)
    have SF := hide (show W3.heap.size < (W3.alloc (.cells #[.slice A N ca] 22)).heap.size by simp)
    have S0 := hide (show (W3.alloc (.cells #[.slice A N ca] 22)).heap.size = w.heap.size + 4 by simp [unhide HSZ])
    clear hc hw' h12 hok hm5
    generalize W3.alloc (.cells #[.slice A N ca] 22) = W0 at *
    generalize W3.heap.size = bf at *
    clear G3 G4 G5 B3 HW3 HSZ
    refine wpIn_rangeFunc_ownH rfl (by omega) (gf := 39) (lb := #[.pointer (some ⟨bf, 0, none⟩)]) rfl trivial (enters_of Try.func39 (by kernel_rfl) rfl)
      (hand_stops N 4 bf A ca ts (unhide HEN) W0 (unhide SF) (row_cell (unhide RF)) ((unhide HV).below (unhide B0)) (by omega) (by omega)) belowK_t (belowK_b (Nat.le_refl _)) (Below.refl _ _) (fun _ => rfl)
      (IB ts xss W0) (IxB ts xss w) (OwnFrom.and (ownFrom_pure _ _) (ownFrom_below (Nat.le_refl _) (Nat.le_refl _))) ?hIx ⟨fun y h => (by cases h), Below.refl _ _⟩
      (AxB (.slice A N ca) (.slice A2 N cb) w.heap.size bf ts W0.heap.size) ?hAx ?assign ?body ?done ?stop
    case hIx =>
      rintro c s X Y row ⟨⟨hc, p, x, e1, e2, e3, r4, r5⟩, hb⟩ hg hr
      exact ⟨⟨hc, p, x, e1, e2, e3, row_kept r4 hg hr, row_kept r5 hg hr⟩, hb.grown hg hb.size (fun k e => Nat.le_trans (unhide B0).size (hr k e).1)⟩
    case hAx =>
      rintro x a' s X Y row ⟨Bx, h1, h2, h3⟩ hg hr
      exact ⟨Bx, h1, row_kept h2 hg hr, h3⟩
    case assign =>
      rintro l pre x W K ⟨hgd, hbl⟩ hK
      unfold encs
      gi_wp2
      simp only [← List.getD_eq_getElem?_getD]
      exact hK _ _ ((KeepsOthers.alloc _ _).from _) ((Below.refl _ W).alloc hbl.size _) ⟨hgd, hbl.alloc hbl.size _⟩ ⟨W.heap.size, hbl.size, heap_at _ _ _ rfl, rfl⟩
    case body =>
      rintro l pre x a' W hl ⟨r, hr⟩ ⟨hgd, hbl⟩ ⟨Bx, hBx, hrow, rfl⟩ hlt
      have hbw : Below w.heap.size w W := (unhide B0).trans (hbl.mono (unhide B0).size)
      obtain ⟨b2, o2, hA2, hb2, hc2⟩ := unhide HD (by have := x.2; omega)
      subst hA2
      obtain ⟨k, hk⟩ : ∃ k : Nat, k = x.1 + 1 := ⟨_, rfl⟩
      have HG2 : Hid (badH ts xss x.1 = false → ∀ y ∈ pre ++ [x], badH ts xss y.1 = false) := hide fun hb y hy => by
        rcases List.mem_append.1 hy with h | h
        · exact hgd y h
        · rw [List.mem_singleton.1 h]; exact hb
      have HX : Hid (∀ (W' : World), badH ts xss x.1 = true → W'.heap[w.heap.size + 1]? = some (.cells #[.int .i64 ((x.1 : Nat) : Int), .bool true] 32 (0, 0)) → W'.heap[w.heap.size + 1 + 1]? = some (.cells #[.int .i64 0] 3 (0, 0)) → Below w.heap.size w W' → IxB ts xss w .ret (pre ++ [x]) W') := hide fun W' hb r4 r5 hB => ⟨⟨rfl, pre, x, rfl, hgd, hb, r4, r5⟩, hB⟩
      unfold frB
      rw [← hk] at hrow ⊢
      have hbad : badH ts xss x.1 = (inB (ts.getD x.1 noS) (xss.getD x.1 []) && !inB (ts.getD k noS) (xss.getD k [])) := by rw [hk]; rfl
      have hx2 : k < N := by have := x.2; omega
      generalize hxj : x.1 = j at *
      have q0 : (0 : Int) ≤ (j : Int) := by omega
      have q2 : (j : Int) < (N : Int) := by omega
      have q3 : (k : Int) < (N : Int) := by omega
      have q4 : (0 : Int) ≤ (k : Int) := by omega
      have q5 : (j : Int) + 1 = (k : Int) := by omega
      have q6 : IntKind.i64.wrap (k : Int) = (k : Int) := by rw [IntKind.wrap_i64]; omega
      obtain ⟨u1, r1, v1⟩ := hc2 j (by omega)
      obtain ⟨u2, r2, v2⟩ := hc2 k (by omega)
      have p3 : W.cell? ⟨b2, o2 + j, none⟩ = some u1 := (cell_below hbw hb2).trans r1
      have p4 : W.cell? ⟨b2, o2 + k, none⟩ = some u2 := (cell_below hbw hb2).trans r2
      have c3 : W.cell? ⟨w.heap.size, 0, none⟩ = some (.slice (some ⟨b2, o2, none⟩) N cb) := row_cell ((hbl.block _ (Array.getElem?_eq_some_iff.1 (unhide R3)).1).trans (unhide R3))
      have c4 : W.cell? ⟨Bx, 0, none⟩ = some (.string (ts.getD j noS)) := row_cell hrow
      have c5 : W.cell? ⟨Bx, 1, none⟩ = some (.string (ts.getD k noS)) := row_cell hrow
      have g4 := (hbl.block _ (Array.getElem?_eq_some_iff.1 (unhide R4)).1).trans (unhide R4)
      have g5 := (hbl.block _ (Array.getElem?_eq_some_iff.1 (unhide R5)).1).trans (unhide R5)
      have l1 := (unhide HF).2 j (by rw [← unhide HEM]; omega)
      have l2 := (unhide HF).2 k (by rw [← unhide HEM]; omega)
      have K1 := hide (show ∀ m, Calls Try.prog 27 #[u1, .string (ts.getD j noS)] (W.drewN m) fun e w' => e = .returned (.bool (inB (ts.getD j noS) (xss.getD j []))) ∧ w' = W.drewN m from fun m => has27 u1 _ _ _ ((v1.below hbw).drewN m) (by omega))
      have K2 := hide (show ∀ m, Calls Try.prog 27 #[u2, .string (ts.getD k noS)] (W.drewN m) fun e w' => e = .returned (.bool (inB (ts.getD k noS) (xss.getD k []))) ∧ w' = W.drewN m from fun m => has27 u2 _ _ _ ((v2.below hbw).drewN m) (by omega))
      obtain ⟨Au, cu, rfl, _⟩ := v1
      obtain ⟨Av, cv, rfl, _⟩ := v2
      have HBL := hide hbl
      have HBW := hide hbw
      have HG4 := hide g4
      have HG5 := hide g5
      generalize inB (ts.getD j noS) (xss.getD j []) = i1 at *
      generalize inB (ts.getD k noS) (xss.getD k []) = i2 at *
      generalize (xss.getD j []).length = m1 at *
      generalize (xss.getD k []).length = m2 at *
      generalize ts.getD j noS = s1 at *
      generalize ts.getD k noS = s2 at *
      clear hc2 hbl hbw r1 r2 l1 l2 hb2 hk hxj hrow hgd hr hx2 g4 g5 hlt
      cases i1
      · gi_wp2
        refine quiet_round (by kernel_rfl) (by kernel_rfl) (by kernel_rfl) ?_
        repeat (go_big_quiet_step (first | (go_at_call_of 27 (Value.slice Au m1 cu); refine Calls.quiet_of_same (unhide K1 _)) | (go_at_call_of 27 (Value.slice Av m2 cv); refine Calls.quiet_of_same (unhide K2 _))))
        refine wpQuiet_nil ?_
        intro _ hw'
        obtain ⟨nq, hw''⟩ := hw'
        subst hw''
        clear c3 c4 c5 p3 p4 K1 K2
        gi_wp2
        exact ⟨(keeps_drewN _ _).from _, below_drewN (Below.refl _ _) nq, ⟨unhide HG2 (by rw [hbad]; rfl), below_drewN (unhide HBL) nq⟩⟩
      · cases i2
        · gi_wp2
          refine quiet_round (by kernel_rfl) (by kernel_rfl) (by kernel_rfl) ?_
          repeat (go_big_quiet_step (first | (go_at_call_of 27 (Value.slice Au m1 cu); refine Calls.quiet_of_same (unhide K1 _)) | (go_at_call_of 27 (Value.slice Av m2 cv); refine Calls.quiet_of_same (unhide K2 _))))
          refine wpQuiet_nil ?_
          intro _ hw'
          obtain ⟨nq, hw''⟩ := hw'
          subst hw''
          have HXE := hide (fun W' => unhide HX W' (by rw [hbad]; rfl))
          have z0 : (W.drewN nq).cell? ⟨w.heap.size + 1, 0, none⟩ = some (.int .i64 0) := row_cell (unhide HG4)
          have z1 : (W.drewN nq).cell? ⟨w.heap.size + 1, 1, none⟩ = some (.bool false) := row_cell (unhide HG4)
          have z2 : (W.drewN nq).cell? ⟨w.heap.size + 1 + 1, 0, none⟩ = some (.int .i64 0) := row_cell (unhide HG5)
          have y0 : (W.drewN nq).frozen? ⟨w.heap.size + 1, 0, none⟩ = false := row_free (unhide HG4)
          have y1 : (W.drewN nq).frozen? ⟨w.heap.size + 1, 1, none⟩ = false := row_free (unhide HG4)
          have y2 : (W.drewN nq).frozen? ⟨w.heap.size + 1 + 1, 0, none⟩ = false := row_free (unhide HG5)
          have HB5 := hide (below_drewN (unhide HBW) nq)
          have H4 := hide (show (W.drewN nq).heap[w.heap.size + 1]? = some (.cells #[.int .i64 0, .bool false] 32 (0, 0)) from unhide HG4)
          have H5 := hide (show (W.drewN nq).heap[w.heap.size + 1 + 1]? = some (.cells #[.int .i64 0] 3 (0, 0)) from unhide HG5)
          have HKP := hide (keeps_drewN W nq)
          clear c3 c4 c5 p3 p4 K1 K2 hbad
          generalize W.drewN nq = w5 at *
          gi_wp2
          refine ⟨((((unhide HKP).trans (KeepsOthers.setCell _ _ _)).trans (KeepsOthers.setCell _ _ _)).trans (KeepsOthers.setCell _ _ _)).from _, unhide HXE _ ?_ ?_ (bl_set (bl_set (bl_set (unhide HB5) (by omega)) (by omega)) (by omega))⟩
          · exact row_set_other (put2 (unhide H4) _ _) (by omega)
          · have := row_set (i := 0) (v := .int .i64 0) (row_set_other (i := 1) (v := .bool true) (row_set_other (i := 0) (v := .int .i64 (j : Int)) (unhide H5) (show w.heap.size + 1 ≠ w.heap.size + 1 + 1 by omega)) (show w.heap.size + 1 ≠ w.heap.size + 1 + 1 by omega))
            simpa using this
        · gi_wp2
          refine quiet_round (by kernel_rfl) (by kernel_rfl) (by kernel_rfl) ?_
          repeat (go_big_quiet_step (first | (go_at_call_of 27 (Value.slice Au m1 cu); refine Calls.quiet_of_same (unhide K1 _)) | (go_at_call_of 27 (Value.slice Av m2 cv); refine Calls.quiet_of_same (unhide K2 _))))
          refine wpQuiet_nil ?_
          intro _ hw'
          obtain ⟨nq, hw''⟩ := hw'
          subst hw''
          clear c3 c4 c5 p3 p4 K1 K2
          gi_wp2
          exact ⟨(keeps_drewN _ _).from _, below_drewN (Below.refl _ _) nq, ⟨unhide HG2 (by rw [hbad]; rfl), below_drewN (unhide HBL) nq⟩⟩
    case done =>
      rintro D ys W hD hS ⟨hgd, hbl⟩ hK
      have hbm : blm ts xss = (0, false) := blF_none _ _ _ (fun i _ hi => by
        have hi2 : i ∈ ys.map (·.1) := by rw [hS, unhide HEN]; exact List.mem_range.2 (by omega)
        obtain ⟨y, hy, e⟩ := List.mem_map.1 hi2
        rw [← e]
        exact hgd y hy)
      rw [hbm] at HY
      have hbw : Below w.heap.size w W := (unhide B0).trans (hbl.mono (unhide B0).size)
      have g4 := (hbl.block _ (Array.getElem?_eq_some_iff.1 (unhide R4)).1).trans (unhide R4)
      have g5 := (hbl.block _ (Array.getElem?_eq_some_iff.1 (unhide R5)).1).trans (unhide R5)
      have z0 : W.cell? ⟨w.heap.size + 1, 0, none⟩ = some (.int .i64 0) := row_cell g4
      have z1 : W.cell? ⟨w.heap.size + 1, 1, none⟩ = some (.bool false) := row_cell g4
      have z2 : W.cell? ⟨w.heap.size + 1 + 1, 0, none⟩ = some (.int .i64 0) := row_cell g5
      have y0 : W.frozen? ⟨w.heap.size + 1, 0, none⟩ = false := row_free g4
      have y1 : W.frozen? ⟨w.heap.size + 1, 1, none⟩ = false := row_free g4
      have y2 : W.frozen? ⟨w.heap.size + 1 + 1, 0, none⟩ = false := row_free g5
      have HBW := hide hbw
      have H4 := hide g4
      have H5 := hide g5
      have HK := hide hK
      have HDD := hide (show w.heap.size + 4 ≤ D by have := unhide S0; omega)
      clear hgd hbl hbw g4 g5 hbm hK hS hD
      gi_wp2
      have hK' := (KeepsOthers.setCell _ ⟨w.heap.size + 1 + 1, 0, none⟩ (.int .i64 0)).same D _ ((KeepsOthers.setCell _ ⟨w.heap.size + 1, 1, none⟩ (.bool false)).same D _ ((KeepsOthers.setCell W ⟨w.heap.size + 1, 0, none⟩ (.int .i64 0)).same D _ (unhide HK) rfl) rfl) rfl
      have s4 := row_set_other (i := 0) (v := .int .i64 0) (put2 (unhide H4) (.int .i64 0) (.bool false)) (show w.heap.size + 1 + 1 ≠ w.heap.size + 1 by omega)
      have s5 := row_set (i := 0) (v := .int .i64 0) (row_set_other (i := 1) (v := .bool false) (row_set_other (i := 0) (v := .int .i64 0) (unhide H5) (show w.heap.size + 1 ≠ w.heap.size + 1 + 1 by omega)) (show w.heap.size + 1 ≠ w.heap.size + 1 + 1 by omega))
      have b5 := bl_set (i := 0) (v := .int .i64 0) (bl_set (i := 1) (v := .bool false) (bl_set (i := 0) (v := .int .i64 0) (unhide HBW) (show w.heap.size ≤ w.heap.size + 1 by omega)) (show w.heap.size ≤ w.heap.size + 1 by omega)) (show w.heap.size ≤ w.heap.size + 1 + 1 by omega)
      refine ⟨by simp, .inl ⟨_, _, rfl, run_takeDeferred hK', ?_⟩⟩
      refine ⟨_, results_cells (P := Try.prog) rfl _ _ (w.heap.size + 1) (w.heap.size + 1 + 1) 32 #[.int .i64 0, .bool false] (0, 0) _ (.int .i64 0) rfl rfl ((World.putObj_heap_other (by have := unhide HDD; omega)).trans s4) (load3 _ _ _ ?_) Try.underlying32 rfl (by kernel_rfl), unhide HY _ (b5.trans (belowK_b (w := w) (Nat.le_refl _) _ D _ _ (by have := unhide HDD; omega) hK' rfl rfl))⟩
      rw [row_cell ((World.putObj_heap_other (by have := unhide HDD; omega)).trans s5)]
      rfl
    case stop =>
      rintro D c pre W hD hSp ⟨⟨rfl, p, x, rfl, hgd, hbad, r4, r5⟩, hb⟩ hK
      rw [List.map_append, List.length_append, List.length_singleton, List.range_succ] at hSp
      obtain ⟨hp, hx⟩ := List.append_inj hSp (by simp)
      have hxk : x.1 = p.length := by simpa using hx
      have hbm : blm ts xss = (((x.1 : Nat) : Int), true) := blF_first _ _ hbad _ _ (fun i _ hi => by
        have hi2 : i ∈ p.map (·.1) := by rw [hp]; exact List.mem_range.2 (by omega)
        obtain ⟨y, hy, e⟩ := List.mem_map.1 hi2
        rw [← e]
        exact hgd y hy) (Nat.zero_le _) (by have := x.2; have := unhide HEN; omega)
      rw [hbm] at HY
      have HDD := hide (show w.heap.size + 4 ≤ D by have := unhide S0; omega)
      clear hgd hbad hSp hp hx hxk hbm hD
      gi_wp2
      refine ⟨by simp, .inl ⟨_, _, rfl, run_takeDeferred hK, ?_⟩⟩
      refine ⟨_, results_cells (P := Try.prog) rfl _ _ (w.heap.size + 1) (w.heap.size + 1 + 1) 32 #[.int .i64 ((x.1 : Nat) : Int), .bool true] (0, 0) _ (.int .i64 0) rfl rfl ((World.putObj_heap_other (by have := unhide HDD; omega)).trans r4) (load3 _ _ _ ?_) Try.underlying32 rfl (by kernel_rfl), unhide HY _ (hb.trans (belowK_b (w := w) (Nat.le_refl _) _ D _ _ (by have := unhide HDD; omega) hK rfl rfl))⟩
      rw [row_cell ((World.putObj_heap_other (by have := unhide HDD; omega)).trans r5)]
      rfl
  · have d0 : W3.cell? ⟨w.heap.size + 1, 0, none⟩ = some (.int .i64 0) := row_cell (unhide G4)
    have d1 : W3.cell? ⟨w.heap.size + 1, 1, none⟩ = some (.bool false) := row_cell (unhide G4)
    have f0 := row_free (i := 0) (unhide G4)
    have f1 := row_free (i := 1) (unhide G4)
    have d2 : W3.cell? ⟨w.heap.size + 1 + 1, 0, none⟩ = some (.int .i64 0) := row_cell (unhide G5)
    have f2 := row_free (i := 0) (unhide G5)
    have hb : (bC ts xss != 0) = true := by simp [hc]
    have HE : Hid (∀ w', Below w.heap.size w w' → outB w ts xss (.returned (.tuple #[vV 0 false, .int .i64 (bC ts xss)])) w') := hide fun w' hb => by
      unfold outB bP
      rw [if_neg hc]
      exact ⟨rfl, hb⟩
    clear hc
    generalize bC ts xss = c at *
    gi_wp2
    have hr4 := put2 (unhide G4) (.int .i64 0) (.bool false)
    refine ⟨_, results_cells (P := Try.prog) rfl _ _ (w.heap.size + 1) (w.heap.size + 1 + 1) 32 #[.int .i64 0, .bool false] (0, 0) _ (.int .i64 c) rfl rfl (row_set_other hr4 (by omega)) (load3 _ _ _ ?_) Try.underlying32 rfl (by kernel_rfl), unhide HE _ (bl_set (bl_set (bl_set (unhide B3) (by omega)) (by omega)) (by omega))⟩
    rw [row_cell (row_set (row_set_other (row_set_other (unhide G5) (by omega)) (by omega)))]
    rfl
end Go.Proofs.Ytecgfkfifocbaaa
