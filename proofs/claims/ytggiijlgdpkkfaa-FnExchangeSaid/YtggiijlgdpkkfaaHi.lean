/- AccessHistogram, the program's. -/
import Derived.Test.YtggiijlgdpkkfaaHsm
import Derived.Test.YtggiijlgdpkkfaaDfr
import Derived.Deep.RegionHeldLaw
import Derived.Laws.ResultCell
namespace Go.Proofs.Ytggiijlgdpkkfaa
open Go.RowKit Go.Maps
set_option maxHeartbeats 4000000
set_option maxRecDepth 20000
theorem law9 : Keyed Try.prog 9 := string_keyed Try.underlying9
theorem zero3 (w : World) : (zeroValue 3).run Try.prog w = .ok (.int .i64 0) w := by kernel_rfl
theorem key9 {s : ByteArray} (h : s.size ≤ maxLen) : keyOf Try.prog 9 (.string s) = some (ky s) := WideMaps.keyOf_string_mk Try.underlying9 h
theorem lit_inj {a b : Int} (h : (DataW.lit (.int .i64 a) : DataW Unit) = .lit (.int .i64 b)) : a = b := by
  injection h with h; injection h
theorem results_tmp_row {P : Program} {fn : Func} {p u : Tmp} {ty : TypeId} (h : fn.results = #[.cell p ty, .tmp u]) (tmps : Array Value) (w : World) (g : Nat) (t : TypeId) (cs : Array Value) (fr : Nat × Nat) (d : TypeDesc) (x : Value)
    (hp : tmps.getD p undef = .pointer (some ⟨g, 0, none⟩)) (hx : tmps.getD u undef = x) (hg : w.heap[g]? = some (.cells cs t fr))
    (hu : P.underlying ty = some d) (hd : (match d with | .struct _ | .array _ _ => true | _ => false) = true) (hi : (P.info? ty).map (·.size) = some cs.size) :
    (results fn tmps).run P w = .ok (.tuple #[.agg cs, x]) w := by
  rw [results_cell_tmp h, hp, hx]
  simp [asAddr, run_loadVar_row w g t ty cs fr d hg hu hd hi]
theorem run_clear {P : Program} {w : World} {r : Nat} {es : Array MapEntry} {clock : Nat} {t kt et ty : TypeId} {ct : Array Bool} (ht : P.underlying t = some (.map kt et)) (hb : w.heap[r]? = some (.map es clock)) :
    (invoke (.builtin .clear #[t] ty ct) #[.map (some r)]).run P w = .ok (.value (.tuple #[])) { w with heap := w.heap.setIfInBounds r (.map #[] clock) } := by
  simp [invoke, builtin, Builtin.clear_, run_underlying ht, MapKept.run_getObj_map hb, MapKept.run_setObj_map _ hb, Result.andThen]
theorem below_clear {B r : Nat} {x w : World} {o : Obj} (h : Below B x w) (hr : B ≤ r) : Below B x { w with heap := w.heap.setIfInBounds r o } := by
  refine ⟨h.os, h.tape, h.output, ?_, fun k hk => ?_⟩
  · simpa using h.size
  · show (w.heap.setIfInBounds r o)[k]? = _
    rw [Array.getElem?_setIfInBounds_ne (by omega)]
    exact h.block k hk
theorem str_inv {key : Value} {kl : Lit} (h : keyOf Try.prog 9 key = some kl) : ∃ s : ByteArray, key = .string s ∧ kl = ky s := by
  obtain ⟨s, h1, h2, _⟩ := WideMaps.string_of_keyOf Try.underlying9 h
  exact ⟨s, h1, h2⟩
theorem same_ky (k a : ByteArray) : (ky k).sameKey (ky a) = decide (k = a) := by
  by_cases e : k = a
  · subst e; rw [WideAt.sameKey_self (ky_is k), decide_eq_true rfl]
  · rw [sameKey_ne (fun q => e (ky_inj q)), decide_eq_false e]
/-- a histogram as a value -/
abbrev hV (o t m : Int) : Value := .agg #[.int .i64 o, .int .i64 t, .int .i64 m]
def hsP (ts : List ByteArray) (m : Nat) : Int := if drC ts = 0 then ((hs ts m : Nat) : Int) else 0
def outH (W : World) (ts : List ByteArray) (e : Ending) (w' : World) : Prop := e = .returned (.tuple #[hV (hsP ts 1) (hsP ts 2) (hsP ts 3), .int .i64 (drC ts)]) ∧ Below W.heap.size W w'
/-- the four counters -/
def hcL (ts : List ByteArray) (d : ByteArray → Bool) : List Int := [(hsL ts d 0 : Nat), (hsL ts d 1 : Nat), (hsL ts d 2 : Nat), (hsL ts d 3 : Nat)]
theorem hcL_step (ts : List ByteArray) (d d' : ByteArray → Bool) (a : ByteArray) (ha : a ∈ ts) (hd : d a = false) (he : ∀ k, k ∈ ts → d' k = (d k || decide (k = a))) (m : Nat) (hm : m = cls (cn ts a)) :
    (hcL ts d).set m ((hcL ts d).getD m 0 + 1) = hcL ts d' := by
  have e : ∀ i, hsL ts d' i = hsL ts d i + if m = i then 1 else 0 := fun i => by
    rw [hsL_congr ts i he, hsL_more ts d a i ha hd, hm]
  have hm3 : m ≤ 3 := by rw [hm]; unfold cls; omega
  unfold hcL
  rw [e 0, e 1, e 2, e 3]
  obtain rfl | rfl | rfl | rfl : m = 0 ∨ m = 1 ∨ m = 2 ∨ m = 3 := by omega
  all_goals simp
theorem hcL_end (ts : List ByteArray) (d : ByteArray → Bool) (h : ∀ k, d k = true) : hcL ts d = [((hs ts 0 : Nat) : Int), ((hs ts 1 : Nat) : Int), ((hs ts 2 : Nat) : Int), ((hs ts 3 : Nat) : Int)] := by
  have : d = fun _ => true := funext h
  subst this; rfl
theorem hcL_start (ts : List ByteArray) (d : ByteArray → Bool) (h : ∀ k, k ∈ ts → d k = false) : hcL ts d = [0, 0, 0, 0] := by
  unfold hcL
  rw [hsL_congr ts 0 h, hsL_congr ts 1 h, hsL_congr ts 2 h, hsL_congr ts 3 h, hsL_none, hsL_none, hsL_none, hsL_none]; rfl
theorem cell_rowQ {w : World} {g : Nat} {e : TypeId} {k : IntKind} {xs : List Int} {rest : List Value} (h : w.heap[g]? = some (rowObj e k xs rest)) (i : Nat) (hi : i < xs.length) : w.cell? ⟨g, i, none⟩ = some (.int k (xs.getD i 0)) := by
  rw [← row_same w g e k xs rest h]
  exact cell_row _ _ _ _ _ _ _ hi (Array.getElem?_eq_some_iff.1 h).1
theorem free_rowQ {w : World} {g : Nat} {e : TypeId} {k : IntKind} {xs : List Int} {rest : List Value} (h : w.heap[g]? = some (rowObj e k xs rest)) (i : Nat) : w.frozen? ⟨g, i, none⟩ = false := by
  unfold World.frozen?
  rw [show (⟨g, i, none⟩ : Addr).block = g from rfl, h]
  simp [rowObj]
theorem set_rowQ {w : World} {g : Nat} {e : TypeId} {k : IntKind} {xs : List Int} {rest : List Value} (h : w.heap[g]? = some (rowObj e k xs rest)) (i : Nat) (v : Int) (hi : i < xs.length) : (w.setCell ⟨g, i, none⟩ (.int k v)).heap[g]? = some (rowObj e k (xs.set i v) rest) := by
  have e : (xs.map (Value.int k) ++ rest).set i (.int k v) = (xs.set i v).map (Value.int k) ++ rest := by
    rw [List.set_append_left _ _ (by simpa using hi), List.map_set]
  simp only [World.setCell, Array.getElem?_modify, if_true, h, Option.map_some, rowObj]
  simp [e]
/-- what stands while a map is filled: the answer's cell, what was there -/
structure Hw (w wr : World) : Prop where
  b : Below w.heap.size w wr
  r : wr.heap[w.heap.size]? = some (.cells #[.int .i64 0, .int .i64 0, .int .i64 0] 29 (0, 0))
  s : w.heap.size + 1 ≤ wr.heap.size
theorem Hw.grown {w wr w1 : World} (h : Hw w wr) {g : Nat} (hg : wr.grownBy w1 (some g)) (hl : w.heap.size < g) : Hw w w1 :=
  ⟨h.b.grown hg h.b.size (fun j hj => by cases hj; omega), (hg.block _ h.s (by intro e; cases e; omega)).trans h.r, Nat.le_trans h.s hg.size⟩
theorem Hw.set {w wr : World} (h : Hw w wr) {g i : Nat} {v : Value} (hl : w.heap.size < g) : Hw w (wr.setCell ⟨g, i, none⟩ v) :=
  ⟨bl_set h.b (by omega), row_set_other h.r (by omega), by rw [size_set]; exact h.s⟩
theorem grown_set (W : World) (q i : Nat) (v : Value) : W.grownBy (W.setCell ⟨q, i, none⟩ v) (some q) :=
  ⟨rfl, rfl, rfl, by rw [size_set]; exact Nat.le_refl _, fun k _ hk => by
    simp only [World.setCell]
    rw [Array.getElem?_modify, if_neg (fun e => hk (by rw [e]))]⟩
theorem row_set3 {X : World} {t g : Nat} {o : Obj} (h : X.heap[t]? = some o) (hne : g ≠ t) (x y z : Int) : (((X.setCell ⟨g, 0, none⟩ (.int .i64 x)).setCell ⟨g, 1, none⟩ (.int .i64 y)).setCell ⟨g, 2, none⟩ (.int .i64 z)).heap[t]? = some o :=
  row_set_other (row_set_other (row_set_other h hne) hne) hne
theorem row_put3 {X : World} {g : Nat} {a b c : Value} {ty : TypeId} (h : X.heap[g]? = some (.cells #[a, b, c] ty (0, 0))) (x y z : Int) : (((X.setCell ⟨g, 0, none⟩ (.int .i64 x)).setCell ⟨g, 1, none⟩ (.int .i64 y)).setCell ⟨g, 2, none⟩ (.int .i64 z)).heap[g]? = some (.cells #[.int .i64 x, .int .i64 y, .int .i64 z] ty (0, 0)) := by
  rw [row_set (row_set (row_set h))]
  rfl
theorem hist10 (v : Value) (ts : List ByteArray) (w : World) (hv : strsV w v ts) (hn : ts.length ≤ 1048576) :
    Calls Try.prog 10 #[v] w fun e w' => outH w ts e w' := by
  have HCO := hide (fun W (hW : strsV W v ts) => code35 v ts W hW (by omega))
  have HV := hide hv
  obtain ⟨A, cap, rfl, hc⟩ := hv
  have HC := hide hc
  clear hc
  have n0 : (0 : Int) ≤ (ts.length : Int) := by omega
  have n1 : (ts.length : Int) ≤ 1048576 := by omega
  have hmm := @run_makeMap Try.prog
  refine calls_of_wpB Try.func10 rfl ?_
  simp only [Try.ntmps10, List.size_toArray, List.length_cons, List.length_nil, Nat.reduceAdd, Nat.reduceSub, Array.replicate_succ,
     Array.replicate_zero, List.push_toArray, List.append_toArray, List.nil_append, List.cons_append]
  go_wp2_with fail
  refine (unhide HCO _ ((unhide HV).below (bl_al (Below.refl _ _)))).mono ?_
  rintro e w' ⟨rfl, hw'⟩
  have hw2 := hw'.symm
  subst hw2
  clear HCO
  by_cases h0 : drC ts = 0
  · have HD := hide h0
    have HB : Hid (drB ts = true) := hide (by
      unfold drC at h0
      split at h0
      · omega
      · split at h0
        · assumption
        · omega)
    have H8 : Hid (∀ i, i < ts.length → (ts.getD i noS).size = 8) := hide (fun i hi => of_decide_eq_true (all_at (Bool.and_eq_true_iff.1 (unhide HB)).2 i hi))
    rw [h0]
    have HW0 : Hid (Hw w ((w.alloc (.cells #[.int .i64 0, .int .i64 0, .int .i64 0] 29)).alloc (.map #[] 0)) ∧ ((w.alloc (.cells #[.int .i64 0, .int .i64 0, .int .i64 0] 29)).alloc (.map #[] 0)).ownsMap Try.prog 9 (plainElem (H := Unit) Try.prog 3) (w.heap.size + 1) 0 (.map [])) := hide ⟨⟨bl_al (bl_al (Below.refl _ _)), ((bl_al (Below.refl _ _)).block _ (by simp)).trans (heap_at w _ _ rfl), by simp⟩, by have := World.ownsMap_made (H := Unit) (w.alloc (.cells #[.int .i64 0, .int .i64 0, .int .i64 0] 29)) Try.prog 9 (plainElem (H := Unit) Try.prog 3); simpa using this⟩
    clear h0 hn
    go_wp2
    clear hmm
    go_loopw [21] (fun i wr => ∃ (j : Nat) (D : DataW Unit), j ≤ ts.length ∧ i = .int .i64 j ∧ wr.ownsMap Try.prog 9 (plainElem (H := Unit) Try.prog 3) (w.heap.size + 1) j D ∧ CntD (ts.take j) D ∧ Hw w wr) (fun i _ => ts.length - (intOf i).toNat)
    case atStart => exact ⟨0, .map [], by omega, rfl, (unhide HW0).2, CntD.start, (unhide HW0).1⟩
    case round =>
      obtain ⟨j, D, hj, rfl, hown, hcnt, hw⟩ := hrel
      by_cases hlt : j < ts.length
      · obtain ⟨b, off, hA, hbb, hcell⟩ := unhide HC (by omega)
        subst hA
        have q1 : (j : Int) < (ts.length : Int) := by omega
        have q0 : (0 : Int) ≤ (j : Int) := by omega
        have p0 : wr.cell? ⟨b, off + j, none⟩ = some (.string (ts.getD j noS)) := (cell_below hw.b hbb).trans (hcell j hlt)
        have hkey := key9 (s := ts.getD j noS) (by rw [unhide H8 j hlt]; unfold maxLen; omega)
        have hAt := hcnt.at_ (ts.getD j noS)
        have m1 : ((cn (ts.take j) (ts.getD j noS) : Nat) : Int) ≤ 1048576 := by
          have := cn_le (ts.take j) (ts.getD j noS)
          rw [List.length_take] at this
          omega
        have HST : Hid (∀ c : Int, c = ((cn (ts.take j) (ts.getD j noS) : Nat) : Int) + 1 → CntD (ts.take (j + 1)) (D.put (ky (ts.getD j noS)) (.lit (.int .i64 c)))) := hide (fun c hc => by
          rw [← List.take_append_getElem hlt, show ts[j] = ts.getD j noS by rw [List.getD_eq_getElem?_getD, List.getElem?_eq_getElem hlt]; rfl]
          exact hcnt.step _ c hc)
        have HJ := hide hlt
        have HW := hide hw
        have hj64 : j < 9223372036854775807 := by omega
        clear hcell hlt hj hbb hw hcnt HW0
        generalize cn (ts.take j) (ts.getD j noS) = m at *
        generalize ts.getD j noS = t at *
        have m0 : (0 : Int) ≤ (m : Int) := by omega
        go_wp2_with (first
          | (at_lookup; refine wpList_lookup_own_int _ rfl _ _ 60 rfl 9 3 .i64 law9 Try.underlying60 Try.underlying3 (zero3 _) (w.heap.size + 1) j _ rfl hown _ _ rfl hkey ?_; intro c hat hwc; obtain rfl := lit_inj (hAt.symm.trans hat))
          | (at_mapUpdate; refine wpList_mapUpdate_own _ rfl _ _ _ 60 rfl 9 3 law9 Try.underlying60 _ (w.heap.size + 1) j _ rfl hown (by unfold maxLen; omega) _ _ _ rfl rfl hkey _ [] (plainElem_int Try.underlying3 (by first | exact WalkArith.wf_i64 (by omega) | exact wrap64_wf _)) ?_; intro w1 hown1 hgrow1)
          | go_in)
        go_roundw
        case rel => exact ⟨j + 1, _, unhide HJ, by go_num, hown1, unhide HST _ rfl, (unhide HW).grown hgrow1 (by omega)⟩
        case measure => have := unhide HJ; simp [intOf]; omega
      · obtain rfl : j = ts.length := by omega
        rw [List.take_length] at hcnt
        have hB : w.heap.size + 1 < wr.heap.size := hown.lt
        have hownX := hown.alloc (.cells #[.int .i64 0, .int .i64 0, .int .i64 0, .int .i64 0] 61)
        have HX4 : Hid ((wr.alloc (.cells #[.int .i64 0, .int .i64 0, .int .i64 0, .int .i64 0] 61)).heap[wr.heap.size]? = some (rowObj 61 .i64 [0, 0, 0, 0] [])) := hide (heap_at _ _ _ rfl)
        have HWX : Hid (Hw w (wr.alloc (.cells #[.int .i64 0, .int .i64 0, .int .i64 0, .int .i64 0] 61))) := hide ⟨bl_al hw.b, ((bl_al (Below.refl _ _)).block _ hw.s).trans hw.r, Nat.le_trans hw.s (by simp)⟩
        have e1 : (wr.alloc (.cells #[.int .i64 0, .int .i64 0, .int .i64 0, .int .i64 0] 61)).heap.size = wr.heap.size + 1 := by simp
        have HCN := hide hcnt
        have HH := hide hB
        clear hlt hj hw hcnt hB HW0
        go_wp2_with (first
          | (at_range; refine wpList_range_own _ rfl _ 60 rfl 9 3 law9 Try.underlying60 _ (w.heap.size + 1) ts.length D rfl hownX ?_; intro w0 hrg0 hg0 hs0)
          | go_in)
        go_frame
        rw [e1] at hrg0 hs0
        rw [e1]
        have H04 : Hid (w0.heap[wr.heap.size]? = some (rowObj 61 .i64 [0, 0, 0, 0] [])) := hide ((hg0.block _ (by rw [e1]; omega) (by simp)).trans (unhide HX4))
        have H0W : Hid (Hw w w0) := hide ⟨(unhide HWX).b.grown hg0 (unhide HWX).b.size (fun j hj => by cases hj), (hg0.block _ (unhide HWX).s (by simp)).trans (unhide HWX).r, Nat.le_trans (unhide HWX).s hg0.size⟩
        clear hg0 hs0 HX4 HWX hownX e1 hown
        generalize wr.heap.size = q4 at *
        go_loopw [10] (fun _ w2 => ∃ (left : Lit → Bool) (cnt : Nat), w2.ranges Try.prog 9 (plainElem (H := Unit) Try.prog 3) (w.heap.size + 1) (q4 + 1) ts.length D left cnt ∧ w2.heap[q4]? = some (rowObj 61 .i64 (hcL ts (fun k => !left (ky k))) []) ∧ Hw w w2) (fun _ w2 => w2.rangeLeft (w.heap.size + 1) (q4 + 1))
        case atStart =>
          refine ⟨_, _, hrg0, ?_, unhide H0W⟩
          rw [hcL_start ts _ (fun k hk => by rw [(unhide HCN).has_ k, decide_eq_true (cn_pos.2 hk)]; rfl)]
          exact unhide H04
        case round =>
          obtain ⟨left, cnt, hrg, h4, hw2⟩ := hrel
          have H4 := hide h4
          have HW2 := hide hw2
          clear h4 hw2 H04 H0W
          go_wp2_with (first
            | (at_next; refine wpList_next_ranges _ rfl _ rfl 9 law9 _ Value.string (Value.int .i64) (fun key kl h => by obtain ⟨s, hs, _⟩ := str_inv h; exact ⟨s, hs⟩) (fun v y h => by obtain ⟨c, hc, _⟩ := plainElem_int_inv Try.underlying3 h; exact ⟨c, hc⟩) (w.heap.size + 1) (q4 + 1) ts.length _ _ _ rfl hrg ?_ ?_)
            | go_in)
          · intro _ hl0
            have h4 := unhide H4
            rw [hcL_end ts _ (fun k => by rw [hl0]; rfl)] at h4
            have c1 := cell_rowQ h4 1 (by simp)
            have c2 := cell_rowQ h4 2 (by simp)
            have c3 := cell_rowQ h4 3 (by simp)
            simp only [List.getD_cons_succ, List.getD_cons_zero] at c1 c2 c3
            have hr := (unhide HW2).r
            have d0 : wr.cell? ⟨w.heap.size, 0, none⟩ = some (.int .i64 0) := row_cell hr
            have d1 : wr.cell? ⟨w.heap.size, 1, none⟩ = some (.int .i64 0) := row_cell hr
            have d2 : wr.cell? ⟨w.heap.size, 2, none⟩ = some (.int .i64 0) := row_cell hr
            have f0 := row_free (i := 0) hr
            have f1 := row_free (i := 1) hr
            have f2 := row_free (i := 2) hr
            obtain ⟨es, clock, hb, _⟩ := hrg.owns
            have HM := hide hb
            have HP : Hid (hsP ts 1 = ((hs ts 1 : Nat) : Int) ∧ hsP ts 2 = ((hs ts 2 : Nat) : Int) ∧ hsP ts 3 = ((hs ts 3 : Nat) : Int)) := hide ⟨by unfold hsP; rw [if_pos (unhide HD)], by unfold hsP; rw [if_pos (unhide HD)], by unfold hsP; rw [if_pos (unhide HD)]⟩
            clear hl0 h4 hr hb hrg hrg0 H4
            generalize ((hs ts 1 : Nat) : Int) = x1 at *
            generalize ((hs ts 2 : Nat) : Int) = x2 at *
            generalize ((hs ts 3 : Nat) : Int) = x3 at *
            go_wp2
            have hB2 := row_set3 (unhide HM) (show w.heap.size ≠ w.heap.size + 1 by omega) x1 x2 x3
            refine postB_one rfl (run_clear Try.underlying60 hB2) (results_tmp_row (P := Try.prog) rfl _ _ w.heap.size 29 #[.int .i64 x1, .int .i64 x2, .int .i64 x3] (0, 0) _ _ rfl rfl ?_ Try.underlying29 rfl (by kernel_rfl)) ⟨?_, below_clear (bl_set (bl_set (bl_set (unhide HW2).b (Nat.le_refl _)) (Nat.le_refl _)) (Nat.le_refl _)) (by omega)⟩
            · show (_ : Array Obj)[w.heap.size]? = _
              rw [Array.getElem?_setIfInBounds_ne (by omega)]
              exact row_put3 (unhide HW2).r x1 x2 x3
            · rw [(unhide HP).1, (unhide HP).2.1, (unhide HP).2.2, unhide HD]
              rfl
          · intro x c kl y1 y2 w1 cnt1 hkey hlx hv hat hrg1 hlt hg1 hs1 hen
            obtain ⟨x', ex, rfl⟩ := str_inv hkey
            cases ex
            obtain ⟨c', ec, ey, _⟩ := plainElem_int_inv Try.underlying3 hv
            cases ec
            cases ey
            obtain rfl := lit_inj (((unhide HCN).at_ x).symm.trans (hat _))
            have hx : x ∈ ts := cn_pos.1 (of_decide_eq_true (((unhide HCN).has_ x).symm.trans (has_true_of_atKey hat)))
            have h4 : w1.heap[q4]? = some (rowObj 61 .i64 (hcL ts (fun k => !left (ky k))) []) := (hg1.block _ (Array.getElem?_eq_some_iff.1 (unhide H4)).1 (by intro e; injection e with e; omega)).trans (unhide H4)
            have hw1 : Hw w w1 := (unhide HW2).grown hg1 (by have := unhide HH; omega)
            have hst := hcL_step ts (fun k => !left (ky k)) (fun k => !(left (ky k) && !(ky k).sameKey (ky x))) x hx (by show (!left (ky x)) = false; rw [hlx]; rfl) (fun k _ => by rw [same_ky]; cases left (ky k) <;> cases decide (k = x) <;> rfl) _ rfl
            have hcl : (cls (cn ts x) = cn ts x ∧ cn ts x ≤ 3) ∨ (cls (cn ts x) = 3 ∧ 3 < cn ts x) := by unfold cls; omega
            have hbd : ((hcL ts (fun k => !left (ky k))).getD (cls (cn ts x)) 0) ≤ 1048576 ∧ 0 ≤ ((hcL ts (fun k => !left (ky k))).getD (cls (cn ts x)) 0) := by
              have := fun m => hsL_le ts (fun k => !left (ky k)) m
              have h3 : cls (cn ts x) ≤ 3 := by unfold cls; omega
              generalize cls (cn ts x) = m at *
              obtain rfl | rfl | rfl | rfl : m = 0 ∨ m = 1 ∨ m = 2 ∨ m = 3 := by omega
              all_goals (simp only [hcL, List.getD_cons_succ, List.getD_cons_zero]; have a0 := this 0; have a1 := this 1; have a2 := this 2; have a3 := this 3; omega)
            have h3 : cls (cn ts x) < (hcL ts (fun k => !left (ky k))).length := by show _ < 4; unfold cls; omega
            have p1 := cell_rowQ h4 _ h3
            have p2 := free_rowQ h4 (cls (cn ts x))
            have p3 := set_rowQ h4 _ ((hcL ts (fun k => !left (ky k))).getD (cls (cn ts x)) 0 + 1) h3
            rw [hst] at p3
            have F5 : Hid (∀ v : Value, v = .int .i64 ((hcL ts (fun k => !left (ky k))).getD (cls (cn ts x)) 0 + 1) → ∃ cnt2, (w1.setCell ⟨q4, cls (cn ts x), none⟩ v).ranges Try.prog 9 (plainElem (H := Unit) Try.prog 3) (w.heap.size + 1) (q4 + 1) ts.length D (fun z => left z && !z.sameKey (ky x)) cnt2 ∧ cnt2 < cnt ∧ (w1.setCell ⟨q4, cls (cn ts x), none⟩ v).heap[q4]? = some (rowObj 61 .i64 (hcL ts (fun k => !(left (ky k) && !(ky k).sameKey (ky x)))) []) ∧ Hw w (w1.setCell ⟨q4, cls (cn ts x), none⟩ v)) := hide (fun v hv => by
              subst hv
              refine ⟨cnt1, hrg1.kept (grown_set _ _ _ _) ?_ ?_, hlt, p3, hw1.set (by have := unhide HH; omega)⟩
              · intro e; injection e with e; have := unhide HH; omega
              · intro e; injection e with e; omega)
            have HRG := hide hrg
            clear hst hg1 hs1 hrg1 hlt hlx hat hv hkey hx h4 hw1 p3 h3 hrg hrg0 H4 HW2
            have b1 := hbd.1
            have b2 := hbd.2
            clear hbd
            generalize (hcL ts (fun k => !left (ky k))).getD (cls (cn ts x)) 0 = z at *
            generalize cls (cn ts x) = m at *
            generalize cn ts x = n at *
            have m0 : (0 : Int) ≤ (n : Int) := by omega
            rcases hcl with ⟨rfl, h3⟩ | ⟨rfl, h3⟩
            all_goals
              obtain ⟨c2, r2, l2, h42, hw2⟩ := unhide F5 _ rfl
              have HF := hide r2
              have HF2 := hide l2
              have HF3 := hide h42
              have HF4 := hide hw2
              clear F5 r2 l2 h42 hw2
              go_wp2
              go_roundw
              case rel => exact ⟨_, c2, unhide HF, unhide HF3, unhide HF4⟩
              case measure => rw [(unhide HF).left_eq, (unhide HRG).left_eq]; exact unhide HF2
  · have HD := hide h0
    have HR : Hid (hsP ts 1 = 0 ∧ hsP ts 2 = 0 ∧ hsP ts 3 = 0) := hide ⟨by unfold hsP; rw [if_neg h0], by unfold hsP; rw [if_neg h0], by unfold hsP; rw [if_neg h0]⟩
    generalize hd : drC ts = c at *
    clear hmm hn
    go_wp2
    refine postB_none rfl (results_tmp_row (P := Try.prog) rfl _ _ w.heap.size _ _ _ _ _ rfl rfl (heap_at _ _ _ rfl) Try.underlying29 rfl (by kernel_rfl)) ⟨?_, bl_al (Below.refl _ _)⟩
    rw [hd, (unhide HR).1, (unhide HR).2.1, (unhide HR).2.2]
    rfl
end Go.Proofs.Ytggiijlgdpkkfaa
