/- ExchangeDrops, the program's. -/
import Derived.Test.YtggiijlgdpkkfaaExo
import Derived.Test.YtggiijlgdpkkfaaHi
import Derived.Test.YtggiijlgdpkkfaaClo
namespace Go.Proofs.Ytggiijlgdpkkfaa
open Go.RowKit Go.Maps
set_option maxHeartbeats 4000000
set_option maxRecDepth 20000
theorem clone41 (t : ByteArray) (w : World) (hl : t.size ≤ 2097152) : Calls Try.prog 41 #[.string t] w fun e w' => e = .returned (.string t) ∧ Below w.heap.size w w' := by
  by_cases h0 : 0 < t.size
  · exact clone26 t w h0 hl
  · have e : t = noS := by
      cases t with | mk d => cases d with | mk l => cases l with | nil => rfl | cons x xs => exact absurd (show 0 < (x :: xs).length by simp) h0
    subst e
    have K : Hid (Calls Try.prog 62 #[.string noS] w fun e w' => e = .returned (.string noS) ∧ w' = w) := hide (by
      go_enter Try.func62, Try.ntmps62
      go_wp2
      go_ret
      exact ⟨rfl, rfl⟩)
    go_enter Try.func41, Try.ntmps41
    go_wp2_with fail
    refine (unhide K).mono ?_
    rintro e w' ⟨rfl, hw'⟩
    have hw2 := hw'.symm
    subst hw2
    clear K hw'
    go_wp2
    go_ret
    exact ⟨rfl, Below.refl _ _⟩
/-- how many came to a drop, and the place of the first, as it reads -/
abbrev vd (c f : Nat) : DataW Unit := .agg [.lit (.int .i64 (c : Int)), .lit (.int .i64 (f : Int))]
abbrev vV (c f : Nat) : Value := .agg #[.int .i64 (c : Int), .int .i64 (f : Int)]
/-- how such a value is read -/
def visE (v : Value) : Option (DataW Unit × List MemPlace) :=
  match v with
  | .agg cs => match cs.toList with
    | [.int .i64 c, .int .i64 f] => if 0 ≤ c ∧ 0 ≤ f then some (.agg [.lit (.int .i64 c), .lit (.int .i64 f)], []) else none
    | _ => none
  | _ => none
theorem visE_mk (c f : Nat) : visE (vV c f) = some (vd c f, []) := by
  simp [visE]
theorem visE_inv {v : Value} {c f : Nat} {qs : List MemPlace} (h : visE v = some (vd c f, qs)) : v = vV c f := by
  unfold visE at h
  split at h
  · rename_i cs
    split at h
    · rename_i c' f' he
      split at h
      · simp only [Option.some.injEq, Prod.mk.injEq, DataW.agg.injEq, List.cons.injEq, DataW.lit.injEq, Lit.int.injEq, true_and, and_true] at h
        obtain ⟨⟨h1, h2⟩, _⟩ := h
        subst h1 h2
        show Value.agg cs = Value.agg _
        congr 1
        apply Array.ext'
        exact he
      · cases h
    · cases h
  · cases h
/-- a map that holds who came to each drop up to j -/
structure VisD (ps : List Acs) (j : Nat) (D : DataW Unit) : Prop where
  map : IsMap D
  at_ : ∃ F : ByteArray → Nat, (∀ s, D.atKey (ky s) (vd 0 0) = vd (cA (ps.take j) s) (F s)) ∧ ∀ s, 0 < cA (ps.take j) s → F s < j ∧ dr ps (F s) = s ∧ cA (ps.take (F s)) s = 0
theorem VisD.start (ps : List Acs) : VisD ps 0 (.map []) := ⟨isMap_empty, fun _ => 0, fun s => rfl, fun s h => absurd h (by simp [cA])⟩
/-- what is known of place j where its drop's visits are looked up -/
theorem VisD.look {ps : List Acs} {j : Nat} {D : DataW Unit} (h : VisD ps j D) (hj : j < ps.length) : ∃ c f : Nat, D.atKey (ky (dr ps j)) (vd 0 0) = vd c f ∧ c = ah ps j ∧
    (c = 1 → f < j ∧ mates ps f j = true) ∧ (c ≠ 1 → ∀ f, f < j → mates ps f j = false) ∧
    (VisD ps (j + 1) (D.put (ky (dr ps j)) (vd (c + 1) (if c = 0 then j else f)))) := by
  obtain ⟨hm, F, hF, hG⟩ := h
  refine ⟨_, _, hF _, rfl, fun hc => ?_, fun hc f hf => ?_, hm.put _ _, fun s => if s = dr ps j then (if cA (ps.take j) (dr ps j) = 0 then j else F (dr ps j)) else F s, fun s => ?_, fun s hs => ?_⟩
  · obtain ⟨h1, h2, h3⟩ := hG (dr ps j) (by omega)
    refine ⟨h1, mates_iff.2 ⟨h2, .inl ⟨?_, hc⟩⟩⟩
    unfold ah; rw [h2]; exact h3
  · cases hmt : mates ps f j
    · rfl
    · rw [mates_iff] at hmt
      have := ah_lt hf (by omega) hmt.1
      have e : ah ps j = cA (ps.take j) (dr ps j) := rfl
      omega
  · dsimp only
    by_cases e : s = dr ps j
    · subst e
      rw [atKey_put_same hm (ky_is _), cA_take ps j hj, if_pos rfl, if_pos rfl]
    · rw [atKey_put_other (fun q => e (ky_inj q)), hF s, cA_take ps j hj, if_neg (fun q => e q.symm), if_neg e, Nat.add_zero]
  · dsimp only
    by_cases e : s = dr ps j
    · subst e
      rw [if_pos rfl]
      by_cases h0 : cA (ps.take j) (dr ps j) = 0
      · rw [if_pos h0]; exact ⟨by omega, rfl, h0⟩
      · rw [if_neg h0]
        obtain ⟨h1, h2, h3⟩ := hG (dr ps j) (by omega)
        exact ⟨by omega, h2, h3⟩
    · rw [if_neg e]
      rw [cA_take ps j hj, if_neg (fun q => e q.symm), Nat.add_zero] at hs
      obtain ⟨h1, h2, h3⟩ := hG s hs
      exact ⟨by omega, h2, h3⟩
theorem visE_mk1 (c f : Nat) : visE (.agg #[.int .i64 ((c : Int) + 1), .int .i64 (f : Int)]) = some (vd (c + 1) f, []) := visE_mk (c + 1) f
theorem al2 {B : Nat} {x W : World} {o o' : Obj} (h : Below B x W) (hs : B ≤ W.heap.size) : Below B x ((W.alloc o).alloc o') := (h.alloc hs o).alloc (by simp; omega) o'
theorem bl_setW {B g i : Nat} {x W : World} {v : Value} (h : Below B x W) (hg : B ≤ g) : Below B x (W.setCell ⟨g, i, none⟩ v) := bl_set h hg
theorem zero68 (w : World) : (zeroValue 68).run Try.prog w = .ok (vV 0 0) w := by kernel_rfl
theorem Lone.grown {q : Nat} {a b : World} (h : Lone q a b) : a.grownBy b (some q) := ⟨h.os, h.tape, h.output, h.size, fun k hk hne => h.block k hk (fun e => hne (by rw [e]))⟩
theorem Lone.cell {q k i : Nat} {a b : World} (h : Lone q a b) (hk : k < a.heap.size) (hne : k ≠ q) : b.cell? ⟨k, i, none⟩ = a.cell? ⟨k, i, none⟩ := World.cell?_of_block (h.block k hk hne)
def exR (ps : List Acs) : List ByteArray := if acC ps = 0 then gL ps all2 else []
/-- what a call of ExchangeDrops answers -/
def outE (W : World) (ps : List Acs) (e : Ending) (w' : World) : Prop := ∃ r, e = .returned (.tuple #[r, .int .i64 (acC ps)]) ∧ ownS W.heap.size w'.heap.size w' r (exR ps) ∧ Below W.heap.size W w'
theorem exch12 (v : Value) (ps : List Acs) (w : World) (hv : acsV w v ps) (hn : ps.length ≤ 1048576) :
    Calls Try.prog 12 #[v] w fun e w' => outE w ps e w' := by
  have HCO := hide (code39 v ps w hv (by omega))
  have HV := hide hv
  obtain ⟨A, cap, rfl, hc⟩ := hv
  clear hc
  have n0 : (0 : Int) ≤ (ps.length : Int) := by omega
  have n1 : (ps.length : Int) ≤ 1048576 := by omega
  have hmm := @run_makeMap Try.prog
  refine calls_of_wpB Try.func12 rfl ?_
  simp only [Try.ntmps12, List.size_toArray, List.length_cons, List.length_nil, Nat.reduceAdd, Nat.reduceSub, Array.replicate_succ,
     Array.replicate_zero, List.push_toArray, List.append_toArray, List.nil_append, List.cons_append]
  go_wp2_with fail
  refine (unhide HCO).mono ?_
  rintro e w1 ⟨rfl, b1⟩
  have B1 := hide b1
  have HV1 := hide ((unhide HV).below b1)
  clear HCO b1 HV
  by_cases h0 : acC ps = 0
  · have HD := hide h0
    have HB : Hid (acB ps = true) := hide (by
      unfold acC at h0
      split at h0
      · omega
      · split at h0
        · assumption
        · omega)
    have H8 : Hid (∀ i, i < ps.length → (dr ps i).size = 8 ∧ (bd ps i).size ≤ 400) := hide (fun i hi => by
      have := allA_at (Bool.and_eq_true_iff.1 (unhide HB)).2 i hi
      unfold isAc at this
      rw [Bool.and_eq_true] at this
      exact ⟨of_decide_eq_true this.1, of_decide_eq_true this.2⟩)
    rw [h0]
    have mk := make_strs ps.length (by omega) w1
    have HW0 : Hid (((w1.alloc (strO (List.replicate ps.length noS) [])).alloc (.map #[] 0)).ownsMap Try.prog 9 visE (w1.heap.size + 1) 0 (.map []) ∧ ((w1.alloc (strO (List.replicate ps.length noS) [])).alloc (.map #[] 0)).heap[w1.heap.size]? = some (strO (gL ps (both 0)) []) ∧ Below w1.heap.size w1 ((w1.alloc (strO (List.replicate ps.length noS) [])).alloc (.map #[] 0))) := hide ⟨by have := World.ownsMap_made (H := Unit) (w1.alloc (strO (List.replicate ps.length noS) [])) Try.prog 9 visE; simpa using this, by rw [both_start]; exact ((bl_al (Below.refl _ _)).block _ (by simp)).trans (heap_at w1 _ _ rfl), bl_al (bl_al (Below.refl _ _))⟩
    clear h0 hn
    go_wp2
    clear hmm mk
    generalize hq : w1.heap.size = q at *
    go_loopw [22] (fun i wr => ∃ (j : Nat) (D : DataW Unit), j ≤ ps.length ∧ i = .int .i64 j ∧ wr.ownsMap Try.prog 9 visE (q + 1) j D ∧ VisD ps j D ∧ wr.heap[q]? = some (strO (gL ps (both j)) []) ∧ Below q w1 wr) (fun i _ => ps.length - (intOf i).toNat)
    case atStart => exact ⟨0, .map [], by omega, rfl, (unhide HW0).1, VisD.start ps, (unhide HW0).2.1, (unhide HW0).2.2⟩
    case round =>
      obtain ⟨j, D, hj, rfl, hown, hvis, hrow, hbl⟩ := hrel
      by_cases hlt : j < ps.length
      · obtain ⟨_, _, hAA, hc0⟩ := unhide HV1
        simp only [Value.slice.injEq] at hAA
        obtain ⟨rfl, _, rfl⟩ := hAA
        obtain ⟨b, off, hA, hbb, hcell⟩ := hc0 (by omega)
        subst hA
        have hbq : b < q := by omega
        have q1 : (j : Int) < (ps.length : Int) := by omega
        have q0 : (0 : Int) ≤ (j : Int) := by omega
        obtain ⟨c, f, hat, hca, hc1, hc2, hstep⟩ := hvis.look hlt
        have hal : c ≤ j := by
          have := cA_le (ps.take j) (dr ps j)
          rw [List.length_take] at this
          rw [hca]; unfold ah; omega
        have hkey := key9 (s := dr ps j) (by rw [(unhide H8 j hlt).1]; unfold maxLen; omega)
        obtain ⟨v1, ps1, hrun, hv1⟩ := World.ownsMap.lookup (hown.alloc (.cells #[.string (dr ps j), .string (bd ps j)] 27)) law9 Try.underlying66 (zero68 _) (visE_mk 0 0) hkey
        rw [hat] at hv1
        obtain rfl := visE_inv hv1
        clear hv1
        have HPC : Hid (∀ i, i < ps.length → ∀ W, Below q w1 W → PC b (off + i * 2) (ps.getD i noA) W) := hide (fun i hi W hW => ⟨(World.cell?_of_block (hW.block b (by omega))).trans (hcell i hi).c0, (World.cell?_of_block (hW.block b (by omega))).trans (hcell i hi).c1⟩)
        have p0 : wr.cell? ⟨b, off + j * 2, none⟩ = some (.string (dr ps j)) := (unhide HPC j hlt wr hbl).c0
        have p1 : wr.cell? ⟨b, off + j * 2 + 1, none⟩ = some (.string (bd ps j)) := (unhide HPC j hlt wr hbl).c1
        have HS := hide hstep
        have HR := hide hrow
        have HBL := hide hbl
        have HJ := hide hlt
        have HC1 := hide hc1
        have HC2 := hide hc2
        have HLT : Hid (q + 1 < wr.heap.size) := hide hown.lt
        clear hcell hc0 hlt hj hrow hbl hstep hc1 hc2 hat hca hvis HW0
        have hj64 : j < 9223372036854775807 := by omega
        have c64 : (c : Int) ≤ 1048576 := by omega
        have c65 : (0 : Int) ≤ (c : Int) := by omega
        have HDR : Hid (dr ps j = dr ps j ∧ bd ps j = bd ps j ∧ (bd ps j).size ≤ 400) := hide ⟨rfl, rfl, (unhide H8 j (unhide HJ)).2⟩
        generalize hdd : dr ps j = d at *
        generalize hee : bd ps j = e at *
        have HDD := hide hdd
        have HEE := hide hee
        have HQ := hide hq
        clear hdd hee HDR hq hbb
        by_cases c1 : c = 1
        · subst c1
          rw [if_neg (by decide)] at HS
          obtain ⟨hfj, hmt⟩ := unhide HC1 rfl
          have HG := hide (both_pair (unhide HJ) hfj hmt)
          rw [unhide HEE] at HG
          have pf : wr.cell? ⟨b, off + f * 2 + 1, none⟩ = some (.string (bd ps f)) := (unhide HPC f (by have := unhide HJ; omega) wr (unhide HBL)).c1
          have bs : (bd ps f).size ≤ 400 := (unhide H8 f (by have := unhide HJ; omega)).2
          have es : e.size ≤ 400 := by rw [← unhide HEE]; exact (unhide H8 j (unhide HJ)).2
          have rr := unhide HR
          have HLN := hide (gL_len ps (both j))
          have hbw : b < wr.heap.size := by have := unhide HLT; omega
          have f0 : (0 : Int) ≤ (f : Int) := by omega
          have f1 : (f : Int) < (ps.length : Int) := by omega
          clear HC1 HC2 HR hmt
          generalize bd ps f = bf at *
          generalize hL : gL ps (both j) = L at *
          clear hL
          go_wp2
          have zA : ((wr.alloc (.cells #[.string d, .string e] 27)).alloc (.cells #[.int .i64 1, .int .i64 (f : Int)] 68)).cell? ⟨wr.heap.size, 1, none⟩ = some (.string e) := by go_simp
          have zD : ((wr.alloc (.cells #[.string d, .string e] 27)).alloc (.cells #[.int .i64 1, .int .i64 (f : Int)] 68)).cell? ⟨wr.heap.size, 0, none⟩ = some (.string d) := by go_simp
          have zC : ((wr.alloc (.cells #[.string d, .string e] 27)).alloc (.cells #[.int .i64 1, .int .i64 (f : Int)] 68)).heap[wr.heap.size + 1]? = some (.cells #[.int .i64 1, .int .i64 (f : Int)] 68 (0, 0)) := heap_at _ _ _ (by simp)
          have zV : ((wr.alloc (.cells #[.string d, .string e] 27)).alloc (.cells #[.int .i64 1, .int .i64 (f : Int)] 68)).cell? ⟨wr.heap.size + 1, 1, none⟩ = some (.int .i64 (f : Int)) := row_cell zC
          have zL : ((wr.alloc (.cells #[.string d, .string e] 27)).alloc (.cells #[.int .i64 1, .int .i64 (f : Int)] 68)).cell? ⟨b, off + f * 2 + 1, none⟩ = some (.string bf) := (cell_below (bl_al (bl_al (Below.refl _ _))) hbw).trans pf
          have ZR : ((wr.alloc (.cells #[.string d, .string e] 27)).alloc (.cells #[.int .i64 1, .int .i64 (f : Int)] 68)).heap[q]? = some (strO L []) := ((bl_al (bl_al (Below.refl wr.heap.size wr))).block q (by have := unhide HLT; omega)).trans rr
          have ZB := al2 (o := .cells #[.string d, .string e] 27) (o' := .cells #[.int .i64 1, .int .i64 (f : Int)] 68) (unhide HBL) (by have := unhide HLT; omega)
          have zown := (hown.alloc (.cells #[.string d, .string e] 27)).alloc (.cells #[.int .i64 1, .int .i64 (f : Int)] 68)
          have zs : ((wr.alloc (.cells #[.string d, .string e] 27)).alloc (.cells #[.int .i64 1, .int .i64 (f : Int)] 68)).heap.size = wr.heap.size + 2 := by simp
          have hlt2 := unhide HLT
          clear hown hrun rr pf p0 p1 HBL
          generalize (wr.alloc (.cells #[.string d, .string e] 27)).alloc (.cells #[.int .i64 1, .int .i64 (f : Int)] 68) = Z at *
          generalize wr.heap.size = g1 at *
          have ZQ : q < Z.heap.size := by omega
          have zbl : b < Z.heap.size := by omega
          have zal : g1 < Z.heap.size := by omega
          have zvl : g1 + 1 < Z.heap.size := by omega
          have zbq : b ≠ q := by omega
          have zaq : g1 ≠ q := by omega
          have zvq : g1 + 1 ≠ q := by omega
          have hjl : j < L.length := by rw [unhide HLN]; exact unhide HJ
          have hfl : f < L.length := by omega
          refine wp_region_held (S := fun W' => Lone q Z W') (by kernel_rfl) ?_
          have hS0 : Lone q Z { Z with drawn := Z.drawn + 1 } := Lone.of_below (below_drewN (Below.refl _ _) 1)
          refine wpAnyH_take (i := 0) (oi := { dst := some 39, op := Op.move (Operand.tmp 5), type := 25, pos := "l12_drops.go:62", after := #[], guard := none }) (v := ?_) rfl (by kernel_rfl) (by kernel_rfl) (by kernel_rfl) (fun _ _ _ h => h) (Or.inl ⟨by rfl, ?_⟩) hS0 ?_
          rotate_left
          · intro W hSw
            have zl := (hSw.cell (k := b) (i := off + f * 2 + 1) zbl zbq).trans zL
            have za := (hSw.cell (k := g1) (i := 1) zal zaq).trans zA
            have zv := (hSw.cell (k := g1 + 1) (i := 1) zvl zvq).trans zV
            go_simp
            try with_reducible rfl
          simp only [Act.put, List.setIfInBounds_toArray, List.set_cons_zero, List.set_cons_succ]
          refine wpAnyH_take (i := 1) (oi := { dst := some 40, op := Op.move (Operand.tmp 7), type := 3, pos := "l12_drops.go:62", after := #[], guard := none }) (v := ?_) rfl (by kernel_rfl) (by kernel_rfl) (by kernel_rfl) (fun _ _ _ h => h) (Or.inl ⟨by rfl, ?_⟩) hS0 ?_
          rotate_left
          · intro W hSw
            have zl := (hSw.cell (k := b) (i := off + f * 2 + 1) zbl zbq).trans zL
            have za := (hSw.cell (k := g1) (i := 1) zal zaq).trans zA
            have zv := (hSw.cell (k := g1 + 1) (i := 1) zvl zvq).trans zV
            go_simp
            try with_reducible rfl
          simp only [Act.put, List.setIfInBounds_toArray, List.set_cons_zero, List.set_cons_succ]
          refine wpAnyH_take (i := 2) (oi := { dst := some 41, op := Op.move (Operand.tmp 5), type := 25, pos := "l12_drops.go:62", after := #[{ on := 16, ground := Ground.gcOnly Departure.lateStores }], guard := none }) (v := ?_) rfl (by kernel_rfl) (by kernel_rfl) (by kernel_rfl) (fun _ _ _ h => h) (Or.inl ⟨by rfl, ?_⟩) hS0 ?_
          rotate_left
          · intro W hSw
            have zl := (hSw.cell (k := b) (i := off + f * 2 + 1) zbl zbq).trans zL
            have za := (hSw.cell (k := g1) (i := 1) zal zaq).trans zA
            have zv := (hSw.cell (k := g1 + 1) (i := 1) zvl zvq).trans zV
            go_simp
            try with_reducible rfl
          simp only [Act.put, List.setIfInBounds_toArray, List.set_cons_zero, List.set_cons_succ]
          refine wpAnyH_take (i := 3) (oi := { dst := some 42, op := Op.fieldAddr 68 (Operand.tmp 9) 1, type := 0, pos := "l12_drops.go:62", after := #[{ on := 16, ground := Ground.gcOnly Departure.lateStores }], guard := none }) (v := ?_) rfl (by kernel_rfl) (by kernel_rfl) (by kernel_rfl) (fun _ _ _ h => h) (Or.inl ⟨by rfl, ?_⟩) hS0 ?_
          rotate_left
          · intro W hSw
            have zl := (hSw.cell (k := b) (i := off + f * 2 + 1) zbl zbq).trans zL
            have za := (hSw.cell (k := g1) (i := 1) zal zaq).trans zA
            have zv := (hSw.cell (k := g1 + 1) (i := 1) zvl zvq).trans zV
            go_simp
            try with_reducible rfl
          simp only [Act.put, List.setIfInBounds_toArray, List.set_cons_zero, List.set_cons_succ]
          refine wpAnyH_take (i := 4) (oi := { dst := some 43, op := Op.load 3 (Operand.tmp 42), type := 3, pos := "l12_drops.go:62", after := #[{ on := 3, ground := Ground.data }, { on := 16, ground := Ground.gcOnly Departure.lateStores }], guard := none }) (v := ?_) rfl (by kernel_rfl) (by kernel_rfl) (by kernel_rfl) (fun _ _ _ h => h) (Or.inl ⟨by rfl, ?_⟩) hS0 ?_
          rotate_left
          · intro W hSw
            have zl := (hSw.cell (k := b) (i := off + f * 2 + 1) zbl zbq).trans zL
            have za := (hSw.cell (k := g1) (i := 1) zal zaq).trans zA
            have zv := (hSw.cell (k := g1 + 1) (i := 1) zvl zvq).trans zV
            go_simp
            try with_reducible rfl
          simp only [Act.put, List.setIfInBounds_toArray, List.set_cons_zero, List.set_cons_succ]
          refine wpAnyH_take (i := 5) (oi := { dst := some 44, op := Op.move (Operand.tmp 0), type := 23, pos := "l12_drops.go:62", after := #[], guard := none }) (v := ?_) rfl (by kernel_rfl) (by kernel_rfl) (by kernel_rfl) (fun _ _ _ h => h) (Or.inl ⟨by rfl, ?_⟩) hS0 ?_
          rotate_left
          · intro W hSw
            have zl := (hSw.cell (k := b) (i := off + f * 2 + 1) zbl zbq).trans zL
            have za := (hSw.cell (k := g1) (i := 1) zal zaq).trans zA
            have zv := (hSw.cell (k := g1 + 1) (i := 1) zvl zvq).trans zV
            go_simp
            try with_reducible rfl
          simp only [Act.put, List.setIfInBounds_toArray, List.set_cons_zero, List.set_cons_succ]
          refine wpAnyH_take (i := 6) (oi := { dst := some 45, op := Op.fieldAddr 68 (Operand.tmp 9) 1, type := 0, pos := "l12_drops.go:62", after := #[], guard := none }) (v := ?_) rfl (by kernel_rfl) (by kernel_rfl) (by kernel_rfl) (fun _ _ _ h => h) (Or.inl ⟨by rfl, ?_⟩) hS0 ?_
          rotate_left
          · intro W hSw
            have zl := (hSw.cell (k := b) (i := off + f * 2 + 1) zbl zbq).trans zL
            have za := (hSw.cell (k := g1) (i := 1) zal zaq).trans zA
            have zv := (hSw.cell (k := g1 + 1) (i := 1) zvl zvq).trans zV
            go_simp
            try with_reducible rfl
          simp only [Act.put, List.setIfInBounds_toArray, List.set_cons_zero, List.set_cons_succ]
          refine wpAnyH_take (i := 7) (oi := { dst := some 46, op := Op.load 3 (Operand.tmp 45), type := 3, pos := "l12_drops.go:62", after := #[{ on := 6, ground := Ground.data }], guard := none }) (v := ?_) rfl (by kernel_rfl) (by kernel_rfl) (by kernel_rfl) (fun _ _ _ h => h) (Or.inl ⟨by rfl, ?_⟩) hS0 ?_
          rotate_left
          · intro W hSw
            have zl := (hSw.cell (k := b) (i := off + f * 2 + 1) zbl zbq).trans zL
            have za := (hSw.cell (k := g1) (i := 1) zal zaq).trans zA
            have zv := (hSw.cell (k := g1 + 1) (i := 1) zvl zvq).trans zV
            go_simp
            try with_reducible rfl
          simp only [Act.put, List.setIfInBounds_toArray, List.set_cons_zero, List.set_cons_succ]
          refine wpAnyH_take (i := 8) (oi := { dst := some 47, op := Op.indexAddr 23 (Operand.tmp 44) (Operand.tmp 46), type := 0, pos := "l12_drops.go:62", after := #[{ on := 5, ground := Ground.data }, { on := 7, ground := Ground.data }], guard := none }) (v := ?_) rfl (by kernel_rfl) (by kernel_rfl) (by kernel_rfl) (fun _ _ _ h => h) (Or.inl ⟨by rfl, ?_⟩) hS0 ?_
          rotate_left
          · intro W hSw
            have zl := (hSw.cell (k := b) (i := off + f * 2 + 1) zbl zbq).trans zL
            have za := (hSw.cell (k := g1) (i := 1) zal zaq).trans zA
            have zv := (hSw.cell (k := g1 + 1) (i := 1) zvl zvq).trans zV
            go_simp
            try with_reducible rfl
          simp only [Act.put, List.setIfInBounds_toArray, List.set_cons_zero, List.set_cons_succ]
          refine wpAnyH_take (i := 9) (oi := { dst := some 48, op := Op.fieldAddr 27 (Operand.tmp 47) 1, type := 0, pos := "l12_drops.go:62", after := #[{ on := 8, ground := Ground.data }], guard := none }) (v := ?_) rfl (by kernel_rfl) (by kernel_rfl) (by kernel_rfl) (fun _ _ _ h => h) (Or.inl ⟨by rfl, ?_⟩) hS0 ?_
          rotate_left
          · intro W hSw
            have zl := (hSw.cell (k := b) (i := off + f * 2 + 1) zbl zbq).trans zL
            have za := (hSw.cell (k := g1) (i := 1) zal zaq).trans zA
            have zv := (hSw.cell (k := g1 + 1) (i := 1) zvl zvq).trans zV
            go_simp
            try with_reducible rfl
          simp only [Act.put, List.setIfInBounds_toArray, List.set_cons_zero, List.set_cons_succ]
          refine wpAnyH_take (i := 10) (oi := { dst := some 49, op := Op.load 9 (Operand.tmp 48), type := 9, pos := "l12_drops.go:62", after := #[{ on := 9, ground := Ground.data }], guard := none }) (v := ?_) rfl (by kernel_rfl) (by kernel_rfl) (by kernel_rfl) (fun _ _ _ h => h) (Or.inl ⟨by rfl, ?_⟩) hS0 ?_
          rotate_left
          · intro W hSw
            have zl := (hSw.cell (k := b) (i := off + f * 2 + 1) zbl zbq).trans zL
            have za := (hSw.cell (k := g1) (i := 1) zal zaq).trans zA
            have zv := (hSw.cell (k := g1 + 1) (i := 1) zvl zvq).trans zV
            go_simp
            try with_reducible rfl
          simp only [Act.put, List.setIfInBounds_toArray, List.set_cons_zero, List.set_cons_succ]
          refine wpAnyH_take (i := 12) (oi := { dst := some 51, op := Op.fieldAddr 27 (Operand.tmp 8) 1, type := 0, pos := "l12_drops.go:62", after := #[], guard := none }) (v := ?_) rfl (by kernel_rfl) (by kernel_rfl) (by kernel_rfl) (fun _ _ _ h => h) (Or.inl ⟨by rfl, ?_⟩) hS0 ?_
          rotate_left
          · intro W hSw
            have zl := (hSw.cell (k := b) (i := off + f * 2 + 1) zbl zbq).trans zL
            have za := (hSw.cell (k := g1) (i := 1) zal zaq).trans zA
            have zv := (hSw.cell (k := g1 + 1) (i := 1) zvl zvq).trans zV
            go_simp
            try with_reducible rfl
          simp only [Act.put, List.setIfInBounds_toArray, List.set_cons_zero, List.set_cons_succ]
          refine wpAnyH_take (i := 13) (oi := { dst := some 52, op := Op.load 9 (Operand.tmp 51), type := 9, pos := "l12_drops.go:62", after := #[{ on := 12, ground := Ground.data }], guard := none }) (v := ?_) rfl (by kernel_rfl) (by kernel_rfl) (by kernel_rfl) (fun _ _ _ h => h) (Or.inl ⟨by rfl, ?_⟩) hS0 ?_
          rotate_left
          · intro W hSw
            have zl := (hSw.cell (k := b) (i := off + f * 2 + 1) zbl zbq).trans zL
            have za := (hSw.cell (k := g1) (i := 1) zal zaq).trans zA
            have zv := (hSw.cell (k := g1 + 1) (i := 1) zvl zvq).trans zV
            go_simp
            try with_reducible rfl
          simp only [Act.put, List.setIfInBounds_toArray, List.set_cons_zero, List.set_cons_succ]
          refine wpAnyH_one (i := 11) (by kernel_rfl) ?_
          refine wpOp_step (o := { dst := some 50, op := Op.call { callee := Callee.value (Operand.func 41), args := #[Operand.tmp 49], argTypes := #[9] }, type := 9, pos := "l12_drops.go:62", after := #[{ on := 10, ground := Ground.data }], guard := none }) rfl fun K' hK => step_enterW (by rfl) 41 #[.string bf] (by go_simp) ((clone41 bf _ (by omega)).mono ?_)
          rintro e wa ⟨rfl, ba⟩
          have sa := hS0.trans (Lone.of_below ba)
          have RR : wa.heap[q]? = some (strO L []) := (ba.block q ZQ).trans ZR
          have RQ : q < wa.heap.size := Nat.lt_of_lt_of_le ZQ ba.size
          clear ba
          refine ⟨_, rfl, hK _ _ ⟨sa, ?_⟩⟩
          simp only [Act.put, List.setIfInBounds_toArray, List.set_cons_zero, List.set_cons_succ]
          refine wpAnyH_one (i := 14) (by kernel_rfl) ?_
          refine wpOp_step (o := { dst := some 53, op := Op.call { callee := Callee.value (Operand.func 41), args := #[Operand.tmp 52], argTypes := #[9] }, type := 9, pos := "l12_drops.go:62", after := #[{ on := 13, ground := Ground.data }, { on := 11, ground := Ground.chain }], guard := none }) rfl fun K' hK => step_enterW (by rfl) 41 #[.string e] (by go_simp) ((clone41 e _ (by omega)).mono ?_)
          rintro e wb ⟨rfl, bb⟩
          have sb := sa.trans (Lone.of_below bb)
          have rb := (bb.block q RQ).trans RR
          clear bb
          refine ⟨_, rfl, hK _ _ ⟨sb, ?_⟩⟩
          simp only [Act.put, List.setIfInBounds_toArray, List.set_cons_zero, List.set_cons_succ]
          refine wpAnyH_take (i := 15) (oi := { dst := some 54, op := Op.indexAddr 25 (Operand.tmp 39) (Operand.tmp 40), type := 0, pos := "l12_drops.go:62", after := #[{ on := 0, ground := Ground.data }, { on := 1, ground := Ground.data }, { on := 0, ground := Ground.phase }, { on := 1, ground := Ground.phase }, { on := 2, ground := Ground.textOnly Departure.lateStores }, { on := 3, ground := Ground.textOnly Departure.lateStores }, { on := 4, ground := Ground.textOnly Departure.lateStores }, { on := 5, ground := Ground.phase }, { on := 6, ground := Ground.phase }, { on := 7, ground := Ground.phase }, { on := 8, ground := Ground.phase }, { on := 9, ground := Ground.phase }, { on := 10, ground := Ground.phase }, { on := 11, ground := Ground.phase }, { on := 12, ground := Ground.textOnly Departure.lateStores }, { on := 13, ground := Ground.textOnly Departure.lateStores }, { on := 14, ground := Ground.phase }], guard := none }) (v := ?_) rfl (by kernel_rfl) (by kernel_rfl) (by kernel_rfl) (fun _ _ _ h => h) (Or.inl ⟨by rfl, ?_⟩) sb ?_
          rotate_left
          · intro W hSw
            have zl := (hSw.cell (k := b) (i := off + f * 2 + 1) zbl zbq).trans zL
            have za := (hSw.cell (k := g1) (i := 1) zal zaq).trans zA
            have zv := (hSw.cell (k := g1 + 1) (i := 1) zvl zvq).trans zV
            go_simp
            try with_reducible rfl
          simp only [Act.put, List.setIfInBounds_toArray, List.set_cons_zero, List.set_cons_succ]
          have o1 := cell_strO rb j (by omega)
          have o2 := free_strO rb j
          have o3 := set_strO rb j bf (by omega)
          have sc := sb.trans (lone_setCell q j wb (.string bf))
          refine wpAnyH_one (i := 16) (by kernel_rfl) ?_
          refine wpOp_step (o := { dst := none, op := Op.store 9 (Operand.tmp 54) (Operand.tmp 50), type := 0, pos := "l12_drops.go:62", after := #[{ on := 15, ground := Ground.data }, { on := 11, ground := Ground.data }, { on := 14, ground := Ground.chain }, { on := 0, ground := Ground.phase }, { on := 1, ground := Ground.phase }, { on := 2, ground := Ground.textOnly Departure.lateStores }, { on := 3, ground := Ground.textOnly Departure.lateStores }, { on := 4, ground := Ground.textOnly Departure.lateStores }, { on := 5, ground := Ground.phase }, { on := 6, ground := Ground.phase }, { on := 7, ground := Ground.phase }, { on := 8, ground := Ground.phase }, { on := 9, ground := Ground.phase }, { on := 10, ground := Ground.phase }, { on := 11, ground := Ground.phase }, { on := 12, ground := Ground.textOnly Departure.lateStores }, { on := 13, ground := Ground.textOnly Departure.lateStores }, { on := 14, ground := Ground.phase }], guard := none }) rfl fun K' hK => step_skipW (by rfl) (wb.setCell ⟨q, j, none⟩ (.string bf)) (by go_simp) ?_
          refine hK _ _ ⟨sc, ?_⟩
          try simp only [Act.put]
          refine wpAnyH_take (i := 17) (oi := { dst := some 55, op := Op.indexAddr 25 (Operand.tmp 41) (Operand.tmp 43), type := 0, pos := "l12_drops.go:62", after := #[{ on := 2, ground := Ground.data }, { on := 4, ground := Ground.data }, { on := 0, ground := Ground.phase }, { on := 1, ground := Ground.phase }, { on := 2, ground := Ground.phase }, { on := 3, ground := Ground.phase }, { on := 4, ground := Ground.phase }, { on := 5, ground := Ground.phase }, { on := 6, ground := Ground.phase }, { on := 7, ground := Ground.phase }, { on := 8, ground := Ground.phase }, { on := 9, ground := Ground.phase }, { on := 10, ground := Ground.phase }, { on := 11, ground := Ground.phase }, { on := 12, ground := Ground.phase }, { on := 13, ground := Ground.phase }, { on := 14, ground := Ground.phase }, { on := 15, ground := Ground.phase }, { on := 16, ground := Ground.phase }], guard := none }) (v := ?_) rfl (by kernel_rfl) (by kernel_rfl) (by kernel_rfl) (fun _ _ _ h => h) (Or.inl ⟨by rfl, ?_⟩) sc ?_
          rotate_left
          · intro W hSw
            have zl := (hSw.cell (k := b) (i := off + f * 2 + 1) zbl zbq).trans zL
            have za := (hSw.cell (k := g1) (i := 1) zal zaq).trans zA
            have zv := (hSw.cell (k := g1 + 1) (i := 1) zvl zvq).trans zV
            go_simp
            try with_reducible rfl
          simp only [Act.put, List.setIfInBounds_toArray, List.set_cons_zero, List.set_cons_succ]
          have o4 := cell_strO o3 f (by rw [List.length_set]; omega)
          have o5 := free_strO o3 f
          have o6 := set_strO o3 f e (by rw [List.length_set]; omega)
          have sd := sc.trans (lone_setCell q f (wb.setCell ⟨q, j, none⟩ (.string bf)) (.string e))
          refine wpAnyH_one (i := 18) (by kernel_rfl) ?_
          refine wpOp_step (o := { dst := none, op := Op.store 9 (Operand.tmp 55) (Operand.tmp 53), type := 0, pos := "l12_drops.go:62", after := #[{ on := 17, ground := Ground.data }, { on := 14, ground := Ground.data }, { on := 16, ground := Ground.chain }, { on := 0, ground := Ground.phase }, { on := 1, ground := Ground.phase }, { on := 2, ground := Ground.phase }, { on := 3, ground := Ground.phase }, { on := 4, ground := Ground.phase }, { on := 5, ground := Ground.phase }, { on := 6, ground := Ground.phase }, { on := 7, ground := Ground.phase }, { on := 8, ground := Ground.phase }, { on := 9, ground := Ground.phase }, { on := 10, ground := Ground.phase }, { on := 11, ground := Ground.phase }, { on := 12, ground := Ground.phase }, { on := 13, ground := Ground.phase }, { on := 14, ground := Ground.phase }, { on := 15, ground := Ground.phase }, { on := 16, ground := Ground.phase }], guard := none }) rfl fun K' hK => step_skipW (by rfl) ((wb.setCell ⟨q, j, none⟩ (.string bf)).setCell ⟨q, f, none⟩ (.string e)) (by go_simp) ?_
          refine hK _ _ ⟨sd, ?_⟩
          try simp only [Act.put]
          refine wpAnyH_done (by kernel_rfl) ?_ _
          rw [unhide HG] at o6
          have HO6 := hide o6
          have LY := hide sd
          clear o1 o2 o3 o4 o5 o6 sb sc sd sa hS0 rb RR RQ
          generalize (wb.setCell ⟨q, j, none⟩ (.string bf)).setCell ⟨q, f, none⟩ (.string e) = Y at *
          have yc := ((unhide LY).block (g1 + 1) zvl zvq).trans zC
          have y0 : Y.cell? ⟨g1 + 1, 0, none⟩ = some (.int .i64 1) := row_cell yc
          have y1 : Y.cell? ⟨g1 + 1, 1, none⟩ = some (.int .i64 (f : Int)) := row_cell yc
          have y2 := row_free (i := 0) yc
          have y3 : Y.cell? ⟨g1, 0, none⟩ = some (.string d) := ((unhide LY).cell zal zaq).trans zD
          have yown := zown.kept (unhide LY).grown (by simp)
          have yo2 := yown.kept (grown_set Y (g1 + 1) 0 (.int .i64 2)) (by intro e; injection e with e; omega)
          have KY : Hid (Below q w1 (Y.setCell ⟨g1 + 1, 0, none⟩ (.int .i64 2)) ∧ (Y.setCell ⟨g1 + 1, 0, none⟩ (.int .i64 2)).heap[q]? = some (strO (gL ps (both (j + 1))) []) ∧ q + 1 < (Y.setCell ⟨g1 + 1, 0, none⟩ (.int .i64 2)).heap.size) := hide ⟨bl_setW ((unhide LY).below ZB (Nat.le_refl _) (by omega)) (by omega), row_set_other (unhide HO6) (by omega), yo2.lt⟩
          clear zown yown zA zD zV zC zL ZR ZB yc
          go_wp2_with (first
            | (at_mapUpdate; refine wpList_mapUpdate_own _ rfl _ _ _ 66 rfl 9 68 law9 Try.underlying66 _ (q + 1) j _ rfl yo2 (by unfold maxLen; omega) _ _ _ rfl rfl hkey _ [] (visE_mk 2 f) ?_; intro w2 hown2 hgrow2)
            | go_in)
          go_roundw
          case rel =>
            exact ⟨j + 1, _, unhide HJ, by go_num, hown2, unhide HS, (hgrow2.block q (by have := (unhide KY).2.2; omega) (by simp)).trans (unhide KY).2.1, (unhide KY).1.grown hgrow2 (by have := (unhide KY).2.2; omega) (fun k hk => by cases hk; omega)⟩
          case measure => have := unhide HJ; simp [intOf]; omega
        · have HG : Hid (gL ps (both (j + 1)) = gL ps (both j)) := hide (both_step (unhide HJ) (unhide HC2 c1))
          have KF : Hid (∀ W, (∀ k, k < wr.heap.size → W.heap[k]? = wr.heap[k]?) → Below q w1 W → ∀ w2, W.grownBy w2 (some (q + 1)) → w2.heap[q]? = some (strO (gL ps (both (j + 1))) []) ∧ Below q w1 w2) := hide (fun W hW hbW w2 hg => ⟨by rw [unhide HG]; exact ((hg.block q (by have := unhide HLT; have := hbW.size; have h2 := (Array.getElem?_eq_some_iff.1 ((hW (q + 1) (unhide HLT)).trans (Array.getElem?_eq_getElem (unhide HLT)))).1; omega) (by simp)).trans (hW q (by have := unhide HLT; omega))).trans (unhide HR), hbW.grown hg (by have := hbW.size; have := unhide HQ; omega) (fun k hk => by cases hk; omega)⟩)
          clear HG HR HC1 HC2
          by_cases c0 : c = 0
          · subst c0
            rw [if_pos rfl] at HS
            go_wp2_with (first
              | (at_mapUpdate; refine wpList_mapUpdate_own _ rfl _ _ _ 66 rfl 9 68 law9 Try.underlying66 _ (q + 1) j _ rfl ((hown.alloc _).alloc _) (by unfold maxLen; omega) _ _ _ rfl rfl hkey _ [] (visE_mk 1 j) ?_; intro w2 hown2 hgrow2)
              | go_in)
            go_roundw
            case rel =>
              have hk := unhide KF _ (fun k hk => (bl_al (bl_al (Below.refl wr.heap.size wr))).block k hk) (al2 (unhide HBL) (by have := unhide HLT; omega)) _ hgrow2
              exact ⟨j + 1, _, unhide HJ, by go_num, hown2, unhide HS, hk.1, hk.2⟩
            case measure => have := unhide HJ; simp [intOf]; omega
          · rw [if_neg c0] at HS
            have g0 : ¬ (c : Int) = 0 := by omega
            have g1 : ¬ (c : Int) = 1 := by omega
            have g2 : (2 : Int) ≤ (c : Int) := by omega
            clear c0 c1
            go_wp2_with (first
              | (at_mapUpdate; refine wpList_mapUpdate_own _ rfl _ _ _ 66 rfl 9 68 law9 Try.underlying66 _ (q + 1) j _ rfl ((hown.alloc _).alloc _) (by unfold maxLen; omega) _ _ _ rfl rfl hkey _ [] (visE_mk1 c f) ?_; intro w2 hown2 hgrow2)
              | go_in)
            go_roundw
            case rel =>
              have hk := unhide KF _ (fun k hk => (bl_al (bl_al (Below.refl wr.heap.size wr))).block k hk) (al2 (unhide HBL) (by have := unhide HLT; omega)) _ hgrow2
              exact ⟨j + 1, _, unhide HJ, by go_num, hown2, unhide HS, hk.1, hk.2⟩
            case measure => have := unhide HJ; simp [intOf]; omega
      · obtain rfl : j = ps.length := by omega
        rw [both_end] at hrow
        obtain ⟨es, clock, hb, _⟩ := hown
        have HM := hide hb
        have HR := hide hrow
        have HBL := hide hbl
        clear hlt hj hvis hb hrow hbl HW0
        have HQ := hide hq
        clear hq
        go_wp2
        refine postB_one rfl (run_clear Try.underlying66 (unhide HM)) (results_tmp2 rfl _ _ _) ⟨_, by rw [unhide HD]; rfl, ?_, below_clear (bl_st (by rw [unhide HQ]; exact unhide HBL) (unhide B1)) (by have := (unhide B1).size; have := unhide HQ; omega)⟩
        have er : exR ps = gL ps all2 := by unfold exR; rw [if_pos (unhide HD)]
        refine .inr ⟨q, ps.length, [], by rw [er, gL_len]; rfl, by have := (unhide B1).size; have := unhide HQ; omega, ?_, ?_, by rw [er, gL_len]; exact Nat.le_refl _⟩
        · show q < (_ : Array Obj).size
          rw [Array.size_setIfInBounds]
          exact (Array.getElem?_eq_some_iff.1 (unhide HR)).1
        · show (_ : Array Obj)[q]? = _
          rw [Array.getElem?_setIfInBounds_ne (by omega), er]
          exact unhide HR
  · have HD := hide h0
    have HR : Hid (exR ps = []) := hide (by unfold exR; rw [if_neg h0])
    generalize hd : acC ps = c at *
    clear hmm hn
    go_wp2
    refine postB_none rfl (results_tmp2 rfl _ _ _) ⟨_, by rw [hd]; rfl, ?_, unhide B1⟩
    rw [unhide HR]
    exact .inl ⟨rfl, rfl⟩
end Go.Proofs.Ytggiijlgdpkkfaa
