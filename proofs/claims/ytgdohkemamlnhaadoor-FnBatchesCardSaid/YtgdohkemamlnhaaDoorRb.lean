/- A reader's batch. -/
import Derived.Test.YtgdohkemamlnhaaDoorSap
import Derived.Test.YtgdohkemamlnhaaDoorRs
namespace Go.Proofs.YtgdohkemamlnhaaDoor
open Go.RowKit
set_option maxHeartbeats 4000000
set_option maxRecDepth 20000
abbrev bt1 (st : RS) : RS := stepN st ⟨#[114, 111, 117, 110, 100]⟩ 4
abbrev bt2 (st : RS) : RS := stepN (bt1 st) ⟨#[108, 97, 121, 101, 114]⟩ 1
abbrev bt3 (st : RS) : RS := stepN (bt2 st) ⟨#[99, 111, 117, 110, 116, 32, 111, 102, 32, 105, 116, 101, 109, 115]⟩ 1
abbrev bt4 (st : RS) : RS := stepN (bt3 st) ⟨#[108, 101, 110, 103, 116, 104, 32, 111, 102, 32, 105, 116, 101, 109, 115]⟩ 2
def cntB (st : RS) : Nat := (ofL (takeN (bt2 st) 1)).toNat
def szB (st : RS) : Nat := (ofL (takeN (bt3 st) 2)).toNat
/-- behind j items of n bytes -/
def stI (n : Nat) (st : RS) : Nat → RS
  | 0 => st
  | j + 1 => stepN (stI n st j) ⟨#[105, 116, 101, 109]⟩ n
def itI (n : Nat) (st : RS) (j : Nat) : List ByteArray := (List.range j).map fun i => strOfNums (takeN (stI n st i) n)
theorem itI_succ (n : Nat) (st : RS) (j : Nat) : itI n st (j + 1) = itI n st j ++ [strOfNums (takeN (stI n st j) n)] := by
  unfold itI
  rw [List.range_succ, List.map_append]
  rfl
theorem itI_len (n : Nat) (st : RS) (j : Nat) : (itI n st j).length = j := by simp [itI]
theorem takeN_bd {st : RS} (h : isB st.1) (n : Nat) (hn : n ≤ 4) : 0 ≤ ofL (takeN st n) ∧ ofL (takeN st n) < 256 ^ n := by
  have hl := takeN_len st n
  have := ofL_bd (takeN st n) (takeN_isB h n) (takeN st n).length (by omega) (Nat.le_refl _)
  rw [List.take_length] at this
  refine ⟨this.1, Int.lt_of_lt_of_le this.2 ?_⟩
  exact_mod_cast Nat.pow_le_pow_right (by omega) hl
/-- what stands while a batch is read: the reader, the batch so far in a block of its own, its result's block -/
structure BI (w0 : World) (q : Nat) (W : World) (cs : Array Value) (xs : List Int) (f : Option (ByteArray × Int)) (wr : World) : Prop where
  rd : Rd w0 q wr xs f
  x : wr.heap[W.heap.size + 1]? = some (.cells cs 33 (0, 0))
  y : wr.heap[W.heap.size]? = some (.cells #[.int .i64 0, .int .i64 0, .slice none 0 0] 33 (0, 0))
  only : Only q W wr
theorem BI.call {w0 : World} {q : Nat} {W : World} {cs : Array Value} {xs xs' : List Int} {f f' : Option (ByteArray × Int)} {wr w' : World} (h : BI w0 q W cs xs f wr) (hr : Rd w0 q w' xs' f') (ho : Only q wr w') (hq : q < W.heap.size) : BI w0 q W cs xs' f' w' :=
  ⟨hr, (ho.block _ (Array.getElem?_eq_some_iff.1 h.x).1 (by omega)).trans h.x, (ho.block _ (Array.getElem?_eq_some_iff.1 h.y).1 (by omega)).trans h.y, h.only.trans ho⟩
theorem BI.set {w0 : World} {q : Nat} {W : World} {cs : Array Value} {xs : List Int} {f : Option (ByteArray × Int)} {wr : World} (h : BI w0 q W cs xs f wr) (i : Nat) (v : Value) (hq : q < W.heap.size) : BI w0 q W (cs.setIfInBounds i v) xs f (wr.setCell ⟨W.heap.size + 1, i, none⟩ v) :=
  ⟨h.rd.setOther _ _ _ (by omega) (by have := h.rd.le; omega), row_set h.x, row_set_other h.y (by omega), h.only.setNew _ _ _ (by omega)⟩
theorem BI.grow {w0 : World} {q B : Nat} {W : World} {cs : Array Value} {xs : List Int} {f : Option (ByteArray × Int)} {wr w' : World} (h : BI w0 q W cs xs f wr) (hb : Below B wr w') (hB : W.heap.size + 2 ≤ B) (hq : q < W.heap.size) : BI w0 q W cs xs f w' :=
  ⟨h.rd.belowB hb (by omega), (hb.block _ (by omega)).trans h.x, (hb.block _ (by omega)).trans h.y, h.only.belowB hb (by omega)⟩
theorem BI.size {w0 : World} {q : Nat} {W : World} {cs : Array Value} {xs : List Int} {f : Option (ByteArray × Int)} {wr : World} (h : BI w0 q W cs xs f wr) : W.heap.size + 2 ≤ wr.heap.size := (Array.getElem?_eq_some_iff.1 h.x).1
theorem batch33 (w0 : World) (q : Nat) (W : World) (st : RS) (hB : isB st.1) (h : Rd w0 q W st.1 st.2) :
    Calls Tryd.prog 33 #[.pointer (some ⟨q, 0, none⟩)] W fun e w' => ∃ u, e = .returned (btV (ofL (takeN st 4)) (ofL (takeN (bt1 st) 1)) u) ∧ ownS W.heap.size w'.heap.size w' u (itI (szB st) (bt4 st) (cntB st)) ∧ Rd w0 q w' (stI (szB st) (bt4 st) (cntB st)).1 (stI (szB st) (bt4 st) (cntB st)).2 ∧ Only q W w' := by
  have I1 : isB (bt1 st).1 := stepN_isB hB _ _
  have I2 : isB (bt2 st).1 := stepN_isB I1 _ _
  have I3 : isB (bt3 st).1 := stepN_isB I2 _ _
  obtain ⟨a0, a1⟩ := takeN_bd I2 1 (by omega)
  obtain ⟨b0, b1⟩ := takeN_bd I3 2 (by omega)
  have hc : ofL (takeN (bt2 st) 1) = (cntB st : Int) := by unfold cntB; omega
  have hz : ofL (takeN (bt3 st) 2) = (szB st : Int) := by unfold szB; omega
  have c256 : cntB st < 256 := by have : (256 : Int) ^ 1 = 256 := by decide
                                  omega
  have c1 : Hid (∀ X, Rd w0 q X st.1 st.2 → Calls Tryd.prog 53 #[.pointer (some ⟨q, 0, none⟩), .string ⟨#[114, 111, 117, 110, 100]⟩, .int .i64 4] X fun e w' => e = .returned (.int .i64 (ofL (takeN st 4))) ∧ Rd w0 q w' (bt1 st).1 (bt1 st).2 ∧ Only q X w') := hide fun X hX => number_any w0 q X st ⟨#[114, 111, 117, 110, 100]⟩ 4 (by omega) hB hX
  have c2 : Hid (∀ X, Rd w0 q X (bt1 st).1 (bt1 st).2 → Calls Tryd.prog 53 #[.pointer (some ⟨q, 0, none⟩), .string ⟨#[108, 97, 121, 101, 114]⟩, .int .i64 1] X fun e w' => e = .returned (.int .i64 (ofL (takeN (bt1 st) 1))) ∧ Rd w0 q w' (bt2 st).1 (bt2 st).2 ∧ Only q X w') := hide fun X hX => number_any w0 q X (bt1 st) ⟨#[108, 97, 121, 101, 114]⟩ 1 (by omega) I1 hX
  have c3 : Hid (∀ X, Rd w0 q X (bt2 st).1 (bt2 st).2 → Calls Tryd.prog 53 #[.pointer (some ⟨q, 0, none⟩), .string ⟨#[99, 111, 117, 110, 116, 32, 111, 102, 32, 105, 116, 101, 109, 115]⟩, .int .i64 1] X fun e w' => e = .returned (.int .i64 (ofL (takeN (bt2 st) 1))) ∧ Rd w0 q w' (bt3 st).1 (bt3 st).2 ∧ Only q X w') := hide fun X hX => number_any w0 q X (bt2 st) ⟨#[99, 111, 117, 110, 116, 32, 111, 102, 32, 105, 116, 101, 109, 115]⟩ 1 (by omega) I2 hX
  have c4 : Hid (∀ X, Rd w0 q X (bt3 st).1 (bt3 st).2 → Calls Tryd.prog 53 #[.pointer (some ⟨q, 0, none⟩), .string ⟨#[108, 101, 110, 103, 116, 104, 32, 111, 102, 32, 105, 116, 101, 109, 115]⟩, .int .i64 2] X fun e w' => e = .returned (.int .i64 (ofL (takeN (bt3 st) 2))) ∧ Rd w0 q w' (bt4 st).1 (bt4 st).2 ∧ Only q X w') := hide fun X hX => number_any w0 q X (bt3 st) ⟨#[108, 101, 110, 103, 116, 104, 32, 111, 102, 32, 105, 116, 101, 109, 115]⟩ 2 (by omega) I3 hX
  rw [hc] at c3
  rw [hz] at c4
  have c5 : Hid (∀ (j : Nat) X, Rd w0 q X (stI (szB st) (bt4 st) j).1 (stI (szB st) (bt4 st) j).2 → Calls Tryd.prog 54 #[.pointer (some ⟨q, 0, none⟩), .string ⟨#[105, 116, 101, 109]⟩, .int .i64 (szB st : Int)] X fun e w' => e = .returned (.string (strOfNums (takeN (stI (szB st) (bt4 st) j) (szB st)))) ∧ Rd w0 q w' (stI (szB st) (bt4 st) (j + 1)).1 (stI (szB st) (bt4 st) (j + 1)).2 ∧ Only q X w') := hide fun j X hX => text_any w0 q X (stI (szB st) (bt4 st) j) ⟨#[105, 116, 101, 109]⟩ (szB st) hX
  clear I1 I2 I3 a0 a1 b0 b1 hc hz hB
  have S0 : Hid (stI (szB st) (bt4 st) 0 = bt4 st) := hide rfl
  have IS := hide (itI_succ (szB st) (bt4 st))
  have IL := hide (itI_len (szB st) (bt4 st))
  have I0 : Hid (itI (szB st) (bt4 st) 0 = []) := hide rfl
  generalize itI (szB st) (bt4 st) = IT at *
  generalize stI (szB st) (bt4 st) = ST at *
  generalize bt4 st = T4 at *
  generalize bt3 st = T3 at *
  generalize bt2 st = T2 at *
  generalize bt1 st = T1 at *
  generalize cntB st = N at *
  generalize szB st = Z at *
  generalize ofL (takeN st 4) = r at *
  generalize ofL (takeN T1 1) = l at *
  have BI0 : BI w0 q W #[.int .i64 0, .int .i64 0, .slice none 0 0] st.1 st.2 ((W.alloc (.cells #[.int .i64 0, .int .i64 0, .slice none 0 0] 33)).alloc (.cells #[.int .i64 0, .int .i64 0, .slice none 0 0] 33)) := by
    have b : Below W.heap.size W ((W.alloc (.cells #[.int .i64 0, .int .i64 0, .slice none 0 0] 33)).alloc (.cells #[.int .i64 0, .int .i64 0, .slice none 0 0] 33)) := bl_al (bl_al (Below.refl _ _))
    refine ⟨h.below b, heap_at _ _ _ (by simp), ?_, Only.of_below b⟩
    rw [Below.heap_alloc _ _ _ (by simp)]
    exact heap_at _ _ _ rfl
  have HBI := hide BI0
  have LT := hide h.lt
  have C256 := hide c256
  have n0 : (0 : Int) ≤ (N : Int) := by omega
  have n1 : (N : Int) < 256 := by omega
  clear h BI0 c256
  go_enter Tryd.func33, Tryd.ntmps33
  go_wp2_with fail
  generalize (W.alloc (.cells #[.int .i64 0, .int .i64 0, .slice none 0 0] 33)).alloc (.cells #[.int .i64 0, .int .i64 0, .slice none 0 0] 33) = x0 at *
  refine (unhide c1 _ (unhide HBI).rd).mono ?_
  rintro e x1 ⟨rfl, r1, o1⟩
  have K1 := hide ((unhide HBI).call r1 o1 (unhide LT))
  have d0 : x1.cell? ⟨W.heap.size + 1, 0, none⟩ = some (.int .i64 0) := row_cell (unhide K1).x
  have z0 : x1.frozen? ⟨W.heap.size + 1, 0, none⟩ = false := row_free (unhide K1).x
  have K2 := hide ((unhide K1).set 0 (.int .i64 r) (unhide LT))
  clear r1 o1 HBI K1 c1
  go_wp2_with fail
  generalize x1.setCell ⟨W.heap.size + 1, 0, none⟩ (.int .i64 r) = x2 at *
  clear d0 z0
  refine (unhide c2 _ (unhide K2).rd).mono ?_
  rintro e x3 ⟨rfl, r3, o3⟩
  have K3 := hide ((unhide K2).call r3 o3 (unhide LT))
  have d0 : x3.cell? ⟨W.heap.size + 1, 1, none⟩ = some (.int .i64 0) := row_cell (unhide K3).x
  have z0 : x3.frozen? ⟨W.heap.size + 1, 1, none⟩ = false := row_free (unhide K3).x
  have K4 := hide ((unhide K3).set 1 (.int .i64 l) (unhide LT))
  clear r3 o3 K2 K3 c2
  go_wp2_with fail
  generalize x3.setCell ⟨W.heap.size + 1, 1, none⟩ (.int .i64 l) = x4 at *
  clear d0 z0
  refine (unhide c3 _ (unhide K4).rd).mono ?_
  rintro e x5 ⟨rfl, r5, o5⟩
  have K5 := hide ((unhide K4).call r5 o5 (unhide LT))
  clear r5 o5 K4 c3
  go_wp2_with fail
  refine (unhide c4 _ (unhide K5).rd).mono ?_
  rintro e x6 ⟨rfl, r6, o6⟩
  have K6 : Hid (BI w0 q W #[.int .i64 r, .int .i64 l, .slice none 0 0] T4.1 T4.2 x6) := hide ((unhide K5).call r6 o6 (unhide LT))
  clear r6 o6 K5 c4
  go_wp2
  go_loopw [17] (fun iv wr => ∃ (j : Nat) (v : Value), j ≤ N ∧ iv = .int .i64 j ∧ BI w0 q W #[.int .i64 r, .int .i64 l, v] (ST j).1 (ST j).2 wr ∧ wr.ownsRow (W.heap.size + 2) 9 1 v j ((IT j).map Value.string)) (fun iv _ => N - (intOf iv).toNat)
  case atStart => exact ⟨0, .slice none 0 0, Nat.zero_le _, rfl, by rw [unhide S0]; exact unhide K6, ⟨by rw [unhide I0]; rfl, .inl ⟨rfl, rfl⟩⟩⟩
  case round =>
    obtain ⟨j, v, hj, rfl, hbi, own⟩ := hrel
    obtain ⟨Av, nv, cv, rfl⟩ : ∃ A n c, v = .slice A n c := by
      rcases own.2 with ⟨rfl, _⟩ | ⟨g, c, _, rfl, _⟩
      · exact ⟨_, _, _, rfl⟩
      · exact ⟨_, _, _, rfl⟩
    have LT' := unhide LT
    by_cases hlt : j < N
    · have q1 : (j : Int) < (N : Int) := by omega
      have q0 : (0 : Int) ≤ (j : Int) := by omega
      have HJ := hide hlt
      have C2 := unhide C256
      have T5 := hide fun X (hX : Rd w0 q X (ST j).1 (ST j).2) => unhide c5 j X hX
      have E := hide (unhide IS j)
      clear K6
      generalize strOfNums (takeN (ST j) Z) = t at *
      go_wp2
      refine wp_region_held (S := fun _ => True) (by kernel_rfl) ?_
      have K7 : BI w0 q W #[.int .i64 r, .int .i64 l, .slice Av nv cv] (ST j).1 (ST j).2 { wr with drawn := wr.drawn + 1 } := hbi.grow (below_drewN (Below.refl wr.heap.size wr) 1) hbi.size LT'
      have own7 : World.ownsRow { wr with drawn := wr.drawn + 1 } (W.heap.size + 2) 9 1 (.slice Av nv cv) j ((IT j).map Value.string) := own
      have cxw : wr.cell? ⟨W.heap.size + 1, 2, none⟩ = some (.slice Av nv cv) := row_cell hbi.x
      have cx7 : World.cell? { wr with drawn := wr.drawn + 1 } ⟨W.heap.size + 1, 2, none⟩ = some (.slice Av nv cv) := row_cell K7.x
      refine wpAnyH_take (i := 0) (oi := { dst := some 19, op := Op.fieldAddr 33 (Operand.tmp 3) 2, type := 0, pos := "l05_wire.go:203", after := #[], guard := none }) (v := ?_) rfl (by kernel_rfl) (by kernel_rfl) (by kernel_rfl) (fun _ _ _ h => h) (Or.inl ⟨by rfl, ?_⟩) trivial ?_
      rotate_left
      · intro _ _
        go_simp
        try with_reducible rfl
      simp only [Act.put, List.setIfInBounds_toArray, List.set_cons_zero, List.set_cons_succ]
      refine wpAnyH_take (i := 2) (oi := { dst := some 21, op := Op.move (Operand.tmp 0), type := 52, pos := "l05_wire.go:203", after := #[], guard := none }) (v := ?_) rfl (by kernel_rfl) (by kernel_rfl) (by kernel_rfl) (fun _ _ _ h => h) (Or.inl ⟨by rfl, ?_⟩) trivial ?_
      rotate_left
      · intro _ _
        go_simp
        try with_reducible rfl
      simp only [Act.put, List.setIfInBounds_toArray, List.set_cons_zero, List.set_cons_succ]
      refine wpAnyH_take (i := 3) (oi := { dst := some 22, op := Op.move (Operand.tmp 5), type := 3, pos := "l05_wire.go:203", after := #[], guard := none }) (v := ?_) rfl (by kernel_rfl) (by kernel_rfl) (by kernel_rfl) (fun _ _ _ h => h) (Or.inl ⟨by rfl, ?_⟩) trivial ?_
      rotate_left
      · intro _ _
        go_simp
        try with_reducible rfl
      simp only [Act.put, List.setIfInBounds_toArray, List.set_cons_zero, List.set_cons_succ]
      refine wpAnyH_two (i := 1) (j := 4) (by kernel_rfl) ?_ ?_
      · refine wpOp_step (o := { dst := some 20, op := Op.load 31 (Operand.tmp 19), type := 31, pos := "l05_wire.go:203", after := #[{ on := 0, ground := Ground.data }], guard := none }) rfl fun K' hK => step_valueW (by rfl) (.slice Av nv cv) ({ wr with drawn := wr.drawn + 1 }) (by go_simp) ?_
        refine hK _ _ ⟨trivial, ?_⟩
        simp only [Act.put, List.setIfInBounds_toArray, List.set_cons_zero, List.set_cons_succ]
        refine wpAnyH_one (i := 4) (by kernel_rfl) ?_
        refine wpOp_step (o := { dst := some 23, op := Op.call { callee := Callee.value (Operand.func 54), args := #[Operand.tmp 21, Operand.const (Value.string { data := #[105, 116, 101, 109] }), Operand.tmp 22], argTypes := #[52, 9, 3] }, type := 9, pos := "l05_wire.go:203", after := #[{ on := 2, ground := Ground.data }, { on := 3, ground := Ground.data }], guard := none }) rfl fun K' hK => step_enterW (by rfl) 54 #[.pointer (some ⟨q, 0, none⟩), .string ⟨#[105, 116, 101, 109]⟩, .int .i64 (Z : Int)] (by go_simp) ((unhide T5 _ K7.rd).mono ?_)
        rintro e x8 ⟨rfl, r8, o8⟩
        have K8 := K7.call r8 o8 LT'
        have own8 := own_only own7 o8 (by omega)
        have cx8 : x8.cell? ⟨W.heap.size + 1, 2, none⟩ = some (.slice Av nv cv) := row_cell K8.x
        clear r8 o8
        refine ⟨_, rfl, hK _ _ ⟨trivial, ?_⟩⟩
        simp only [Act.put, List.setIfInBounds_toArray, List.set_cons_zero, List.set_cons_succ]
        refine wpAnyH_one (i := 5) (by kernel_rfl) ?_
        refine wpOp_step (o := { dst := some 24, op := Op.buildSlice 31 1 #[(0, Operand.tmp 23)], type := 31, pos := "l05_wire.go:203", after := #[{ on := 4, ground := Ground.data }], guard := none }) rfl fun K' hK => step_valueW (by rfl) (.slice (some ⟨x8.heap.size, 0, none⟩) 1 1) (x8.alloc (.cells #[.string t] 9)) (by go_simp) ?_
        have b9 : Below x8.heap.size x8 (x8.alloc (.cells #[.string t] 9)) := bl_al (Below.refl _ _)
        have K9 := K8.grow b9 K8.size LT'
        have own9 := own8.alloc (.cells #[.string t] 9)
        have cx9 : (x8.alloc (.cells #[.string t] 9)).cell? ⟨W.heap.size + 1, 2, none⟩ = some (.slice Av nv cv) := row_cell K9.x
        have ct : (x8.alloc (.cells #[.string t] 9)).cell? ⟨x8.heap.size, 0, none⟩ = some (.string t) := row_cell (heap_at x8 _ _ rfl)
        refine hK _ _ ⟨trivial, ?_⟩
        simp only [Act.put, List.setIfInBounds_toArray, List.set_cons_zero, List.set_cons_succ]
        refine wpAnyH_one (i := 6) (by kernel_rfl) ?_
        refine wpOp_step (o := { dst := some 25, op := Op.call { callee := Callee.builtin Builtin.append, args := #[Operand.tmp 20, Operand.tmp 24], argTypes := #[31, 31] }, type := 31, pos := "l05_wire.go:203", after := #[{ on := 1, ground := Ground.data }, { on := 5, ground := Ground.data }, { on := 4, ground := Ground.chain }], guard := none }) rfl fun K' hK => step_append_one _ (by rfl) _ _ (by rfl) (W.heap.size + 2) j _ (IT j) (by rfl) own9 x8.heap.size t (by rfl) ct (by omega) K9.size ?_
        intro g10 c10 x10 own10 gr10
        have b10 := grown_below gr10 (fun k hk => (own9.lt k hk).1) K9.size
        have K10 := K9.grow b10 (Nat.le_refl _) LT'
        have dx : x10.cell? ⟨W.heap.size + 1, 2, none⟩ = some (.slice Av nv cv) := row_cell K10.x
        have zx : x10.frozen? ⟨W.heap.size + 1, 2, none⟩ = false := row_free K10.x
        clear gr10 b10
        refine hK _ _ ⟨trivial, ?_⟩
        simp only [Act.put, List.setIfInBounds_toArray, List.set_cons_zero, List.set_cons_succ]
        refine wpAnyH_take (i := 7) (oi := { dst := some 26, op := Op.fieldAddr 33 (Operand.tmp 3) 2, type := 0, pos := "l05_wire.go:203", after := #[{ on := 0, ground := Ground.phase }, { on := 1, ground := Ground.phase }, { on := 2, ground := Ground.phase }, { on := 3, ground := Ground.phase }, { on := 4, ground := Ground.phase }, { on := 5, ground := Ground.phase }, { on := 6, ground := Ground.phase }], guard := none }) (v := ?_) rfl (by kernel_rfl) (by kernel_rfl) (by kernel_rfl) (fun _ _ _ h => h) (Or.inl ⟨by rfl, ?_⟩) trivial ?_
        rotate_left
        · intro _ _
          go_simp
          try with_reducible rfl
        simp only [Act.put, List.setIfInBounds_toArray, List.set_cons_zero, List.set_cons_succ]
        refine wpAnyH_one (i := 8) (by kernel_rfl) ?_
        refine wpOp_step (o := { dst := none, op := Op.store 31 (Operand.tmp 26) (Operand.tmp 25), type := 0, pos := "l05_wire.go:203", after := #[{ on := 7, ground := Ground.data }, { on := 6, ground := Ground.data }, { on := 6, ground := Ground.chain }, { on := 0, ground := Ground.phase }, { on := 1, ground := Ground.phase }, { on := 2, ground := Ground.phase }, { on := 3, ground := Ground.phase }, { on := 4, ground := Ground.phase }, { on := 5, ground := Ground.phase }, { on := 6, ground := Ground.phase }], guard := none }) rfl fun K' hK => step_skipW (by rfl) (x10.setCell ⟨W.heap.size + 1, 2, none⟩ (.slice (some ⟨g10, 0, none⟩) (j + 1) c10)) (by go_simp) ?_
        refine hK _ _ ⟨trivial, ?_⟩
        try simp only [Act.put]
        refine wpAnyH_done (by kernel_rfl) ?_ _
        have K11 := hide (K10.set 2 (.slice (some ⟨g10, 0, none⟩) (j + 1) c10) LT')
        have O11 := hide (own_only own10 (only_setCell (W.heap.size + 1) 2 x10 (.slice (some ⟨g10, 0, none⟩) (j + 1) c10)) (by omega))
        generalize x10.setCell ⟨W.heap.size + 1, 2, none⟩ (.slice (some ⟨g10, 0, none⟩) (j + 1) c10) = x11 at *
        clear K7 own7 cx7 cxw K8 own8 cx8 K9 own9 cx9 ct K10 dx zx own10 hbi own
        go_wp2
        go_roundw
        case rel => exact ⟨j + 1, _, unhide HJ, by go_num, unhide K11, by rw [unhide E]; exact unhide O11⟩
        case measure => have := unhide HJ; simp [intOf]; omega
      · refine wpOp_step (o := { dst := some 23, op := Op.call { callee := Callee.value (Operand.func 54), args := #[Operand.tmp 21, Operand.const (Value.string { data := #[105, 116, 101, 109] }), Operand.tmp 22], argTypes := #[52, 9, 3] }, type := 9, pos := "l05_wire.go:203", after := #[{ on := 2, ground := Ground.data }, { on := 3, ground := Ground.data }], guard := none }) rfl fun K' hK => step_enterW (by rfl) 54 #[.pointer (some ⟨q, 0, none⟩), .string ⟨#[105, 116, 101, 109]⟩, .int .i64 (Z : Int)] (by go_simp) ((unhide T5 _ K7.rd).mono ?_)
        rintro e x8 ⟨rfl, r8, o8⟩
        have K8 := K7.call r8 o8 LT'
        have own8 := own_only own7 o8 (by omega)
        have cx8 : x8.cell? ⟨W.heap.size + 1, 2, none⟩ = some (.slice Av nv cv) := row_cell K8.x
        clear r8 o8
        refine ⟨_, rfl, hK _ _ ⟨trivial, ?_⟩⟩
        simp only [Act.put, List.setIfInBounds_toArray, List.set_cons_zero, List.set_cons_succ]
        refine wpAnyH_two (i := 1) (j := 5) (by kernel_rfl) ?_ ?_
        · refine wpOp_step (o := { dst := some 20, op := Op.load 31 (Operand.tmp 19), type := 31, pos := "l05_wire.go:203", after := #[{ on := 0, ground := Ground.data }], guard := none }) rfl fun K' hK => step_valueW (by rfl) (.slice Av nv cv) (x8) (by go_simp) ?_
          refine hK _ _ ⟨trivial, ?_⟩
          simp only [Act.put, List.setIfInBounds_toArray, List.set_cons_zero, List.set_cons_succ]
          refine wpAnyH_one (i := 5) (by kernel_rfl) ?_
          refine wpOp_step (o := { dst := some 24, op := Op.buildSlice 31 1 #[(0, Operand.tmp 23)], type := 31, pos := "l05_wire.go:203", after := #[{ on := 4, ground := Ground.data }], guard := none }) rfl fun K' hK => step_valueW (by rfl) (.slice (some ⟨x8.heap.size, 0, none⟩) 1 1) (x8.alloc (.cells #[.string t] 9)) (by go_simp) ?_
          have b9 : Below x8.heap.size x8 (x8.alloc (.cells #[.string t] 9)) := bl_al (Below.refl _ _)
          have K9 := K8.grow b9 K8.size LT'
          have own9 := own8.alloc (.cells #[.string t] 9)
          have cx9 : (x8.alloc (.cells #[.string t] 9)).cell? ⟨W.heap.size + 1, 2, none⟩ = some (.slice Av nv cv) := row_cell K9.x
          have ct : (x8.alloc (.cells #[.string t] 9)).cell? ⟨x8.heap.size, 0, none⟩ = some (.string t) := row_cell (heap_at x8 _ _ rfl)
          refine hK _ _ ⟨trivial, ?_⟩
          simp only [Act.put, List.setIfInBounds_toArray, List.set_cons_zero, List.set_cons_succ]
          refine wpAnyH_one (i := 6) (by kernel_rfl) ?_
          refine wpOp_step (o := { dst := some 25, op := Op.call { callee := Callee.builtin Builtin.append, args := #[Operand.tmp 20, Operand.tmp 24], argTypes := #[31, 31] }, type := 31, pos := "l05_wire.go:203", after := #[{ on := 1, ground := Ground.data }, { on := 5, ground := Ground.data }, { on := 4, ground := Ground.chain }], guard := none }) rfl fun K' hK => step_append_one _ (by rfl) _ _ (by rfl) (W.heap.size + 2) j _ (IT j) (by rfl) own9 x8.heap.size t (by rfl) ct (by omega) K9.size ?_
          intro g10 c10 x10 own10 gr10
          have b10 := grown_below gr10 (fun k hk => (own9.lt k hk).1) K9.size
          have K10 := K9.grow b10 (Nat.le_refl _) LT'
          have dx : x10.cell? ⟨W.heap.size + 1, 2, none⟩ = some (.slice Av nv cv) := row_cell K10.x
          have zx : x10.frozen? ⟨W.heap.size + 1, 2, none⟩ = false := row_free K10.x
          clear gr10 b10
          refine hK _ _ ⟨trivial, ?_⟩
          simp only [Act.put, List.setIfInBounds_toArray, List.set_cons_zero, List.set_cons_succ]
          refine wpAnyH_take (i := 7) (oi := { dst := some 26, op := Op.fieldAddr 33 (Operand.tmp 3) 2, type := 0, pos := "l05_wire.go:203", after := #[{ on := 0, ground := Ground.phase }, { on := 1, ground := Ground.phase }, { on := 2, ground := Ground.phase }, { on := 3, ground := Ground.phase }, { on := 4, ground := Ground.phase }, { on := 5, ground := Ground.phase }, { on := 6, ground := Ground.phase }], guard := none }) (v := ?_) rfl (by kernel_rfl) (by kernel_rfl) (by kernel_rfl) (fun _ _ _ h => h) (Or.inl ⟨by rfl, ?_⟩) trivial ?_
          rotate_left
          · intro _ _
            go_simp
            try with_reducible rfl
          simp only [Act.put, List.setIfInBounds_toArray, List.set_cons_zero, List.set_cons_succ]
          refine wpAnyH_one (i := 8) (by kernel_rfl) ?_
          refine wpOp_step (o := { dst := none, op := Op.store 31 (Operand.tmp 26) (Operand.tmp 25), type := 0, pos := "l05_wire.go:203", after := #[{ on := 7, ground := Ground.data }, { on := 6, ground := Ground.data }, { on := 6, ground := Ground.chain }, { on := 0, ground := Ground.phase }, { on := 1, ground := Ground.phase }, { on := 2, ground := Ground.phase }, { on := 3, ground := Ground.phase }, { on := 4, ground := Ground.phase }, { on := 5, ground := Ground.phase }, { on := 6, ground := Ground.phase }], guard := none }) rfl fun K' hK => step_skipW (by rfl) (x10.setCell ⟨W.heap.size + 1, 2, none⟩ (.slice (some ⟨g10, 0, none⟩) (j + 1) c10)) (by go_simp) ?_
          refine hK _ _ ⟨trivial, ?_⟩
          try simp only [Act.put]
          refine wpAnyH_done (by kernel_rfl) ?_ _
          have K11 := hide (K10.set 2 (.slice (some ⟨g10, 0, none⟩) (j + 1) c10) LT')
          have O11 := hide (own_only own10 (only_setCell (W.heap.size + 1) 2 x10 (.slice (some ⟨g10, 0, none⟩) (j + 1) c10)) (by omega))
          generalize x10.setCell ⟨W.heap.size + 1, 2, none⟩ (.slice (some ⟨g10, 0, none⟩) (j + 1) c10) = x11 at *
          clear K7 own7 cx7 cxw K8 own8 cx8 K9 own9 cx9 ct K10 dx zx own10 hbi own
          go_wp2
          go_roundw
          case rel => exact ⟨j + 1, _, unhide HJ, by go_num, unhide K11, by rw [unhide E]; exact unhide O11⟩
          case measure => have := unhide HJ; simp [intOf]; omega
        · refine wpOp_step (o := { dst := some 24, op := Op.buildSlice 31 1 #[(0, Operand.tmp 23)], type := 31, pos := "l05_wire.go:203", after := #[{ on := 4, ground := Ground.data }], guard := none }) rfl fun K' hK => step_valueW (by rfl) (.slice (some ⟨x8.heap.size, 0, none⟩) 1 1) (x8.alloc (.cells #[.string t] 9)) (by go_simp) ?_
          have b9 : Below x8.heap.size x8 (x8.alloc (.cells #[.string t] 9)) := bl_al (Below.refl _ _)
          have K9 := K8.grow b9 K8.size LT'
          have own9 := own8.alloc (.cells #[.string t] 9)
          have cx9 : (x8.alloc (.cells #[.string t] 9)).cell? ⟨W.heap.size + 1, 2, none⟩ = some (.slice Av nv cv) := row_cell K9.x
          have ct : (x8.alloc (.cells #[.string t] 9)).cell? ⟨x8.heap.size, 0, none⟩ = some (.string t) := row_cell (heap_at x8 _ _ rfl)
          refine hK _ _ ⟨trivial, ?_⟩
          simp only [Act.put, List.setIfInBounds_toArray, List.set_cons_zero, List.set_cons_succ]
          refine wpAnyH_one (i := 1) (by kernel_rfl) ?_
          refine wpOp_step (o := { dst := some 20, op := Op.load 31 (Operand.tmp 19), type := 31, pos := "l05_wire.go:203", after := #[{ on := 0, ground := Ground.data }], guard := none }) rfl fun K' hK => step_valueW (by rfl) (.slice Av nv cv) (x8.alloc (.cells #[.string t] 9)) (by go_simp) ?_
          refine hK _ _ ⟨trivial, ?_⟩
          simp only [Act.put, List.setIfInBounds_toArray, List.set_cons_zero, List.set_cons_succ]
          refine wpAnyH_one (i := 6) (by kernel_rfl) ?_
          refine wpOp_step (o := { dst := some 25, op := Op.call { callee := Callee.builtin Builtin.append, args := #[Operand.tmp 20, Operand.tmp 24], argTypes := #[31, 31] }, type := 31, pos := "l05_wire.go:203", after := #[{ on := 1, ground := Ground.data }, { on := 5, ground := Ground.data }, { on := 4, ground := Ground.chain }], guard := none }) rfl fun K' hK => step_append_one _ (by rfl) _ _ (by rfl) (W.heap.size + 2) j _ (IT j) (by rfl) own9 x8.heap.size t (by rfl) ct (by omega) K9.size ?_
          intro g10 c10 x10 own10 gr10
          have b10 := grown_below gr10 (fun k hk => (own9.lt k hk).1) K9.size
          have K10 := K9.grow b10 (Nat.le_refl _) LT'
          have dx : x10.cell? ⟨W.heap.size + 1, 2, none⟩ = some (.slice Av nv cv) := row_cell K10.x
          have zx : x10.frozen? ⟨W.heap.size + 1, 2, none⟩ = false := row_free K10.x
          clear gr10 b10
          refine hK _ _ ⟨trivial, ?_⟩
          simp only [Act.put, List.setIfInBounds_toArray, List.set_cons_zero, List.set_cons_succ]
          refine wpAnyH_take (i := 7) (oi := { dst := some 26, op := Op.fieldAddr 33 (Operand.tmp 3) 2, type := 0, pos := "l05_wire.go:203", after := #[{ on := 0, ground := Ground.phase }, { on := 1, ground := Ground.phase }, { on := 2, ground := Ground.phase }, { on := 3, ground := Ground.phase }, { on := 4, ground := Ground.phase }, { on := 5, ground := Ground.phase }, { on := 6, ground := Ground.phase }], guard := none }) (v := ?_) rfl (by kernel_rfl) (by kernel_rfl) (by kernel_rfl) (fun _ _ _ h => h) (Or.inl ⟨by rfl, ?_⟩) trivial ?_
          rotate_left
          · intro _ _
            go_simp
            try with_reducible rfl
          simp only [Act.put, List.setIfInBounds_toArray, List.set_cons_zero, List.set_cons_succ]
          refine wpAnyH_one (i := 8) (by kernel_rfl) ?_
          refine wpOp_step (o := { dst := none, op := Op.store 31 (Operand.tmp 26) (Operand.tmp 25), type := 0, pos := "l05_wire.go:203", after := #[{ on := 7, ground := Ground.data }, { on := 6, ground := Ground.data }, { on := 6, ground := Ground.chain }, { on := 0, ground := Ground.phase }, { on := 1, ground := Ground.phase }, { on := 2, ground := Ground.phase }, { on := 3, ground := Ground.phase }, { on := 4, ground := Ground.phase }, { on := 5, ground := Ground.phase }, { on := 6, ground := Ground.phase }], guard := none }) rfl fun K' hK => step_skipW (by rfl) (x10.setCell ⟨W.heap.size + 1, 2, none⟩ (.slice (some ⟨g10, 0, none⟩) (j + 1) c10)) (by go_simp) ?_
          refine hK _ _ ⟨trivial, ?_⟩
          try simp only [Act.put]
          refine wpAnyH_done (by kernel_rfl) ?_ _
          have K11 := hide (K10.set 2 (.slice (some ⟨g10, 0, none⟩) (j + 1) c10) LT')
          have O11 := hide (own_only own10 (only_setCell (W.heap.size + 1) 2 x10 (.slice (some ⟨g10, 0, none⟩) (j + 1) c10)) (by omega))
          generalize x10.setCell ⟨W.heap.size + 1, 2, none⟩ (.slice (some ⟨g10, 0, none⟩) (j + 1) c10) = x11 at *
          clear K7 own7 cx7 cxw K8 own8 cx8 K9 own9 cx9 ct K10 dx zx own10 hbi own
          go_wp2
          go_roundw
          case rel => exact ⟨j + 1, _, unhide HJ, by go_num, unhide K11, by rw [unhide E]; exact unhide O11⟩
          case measure => have := unhide HJ; simp [intOf]; omega
    · obtain rfl : j = N := by omega
      have k6 := hbi
      have d0 : wr.cell? ⟨W.heap.size + 1, 0, none⟩ = some (.int .i64 r) := row_cell hbi.x
      have d1 : wr.cell? ⟨W.heap.size + 1, 1, none⟩ = some (.int .i64 l) := row_cell hbi.x
      have d2 : wr.cell? ⟨W.heap.size + 1, 2, none⟩ = some (.slice Av nv cv) := row_cell hbi.x
      have p0 : wr.cell? ⟨W.heap.size, 0, none⟩ = some (.int .i64 0) := row_cell hbi.y
      have p1 : wr.cell? ⟨W.heap.size, 1, none⟩ = some (.int .i64 0) := row_cell hbi.y
      have p2 : wr.cell? ⟨W.heap.size, 2, none⟩ = some (.slice none 0 0) := row_cell hbi.y
      have y0 : wr.frozen? ⟨W.heap.size, 0, none⟩ = false := row_free hbi.y
      have y1 : wr.frozen? ⟨W.heap.size, 1, none⟩ = false := row_free hbi.y
      have y2 : wr.frozen? ⟨W.heap.size, 2, none⟩ = false := row_free hbi.y
      have HBI := hide hbi
      have OW := hide own
      clear hbi own hlt k6 K6
      go_wp2
      refine bodyPost_ret (v := btV r l (.slice Av nv cv)) ?_ rfl ⟨_, rfl, ?_, ?_, ?_⟩
      · exact results_cell_row rfl _ _ W.heap.size 33 _ (0, 0) _ rfl (row_set (i := 2) (v := .slice Av nv cv) (row_set (i := 1) (v := .int .i64 l) (row_set (i := 0) (v := .int .i64 r) (unhide HBI).y))) Tryd.underlying33 rfl (by kernel_rfl)
      · have o1 := own_only (own_only (own_only (unhide OW) (only_setCell W.heap.size 0 _ (.int .i64 r)) (by omega)) (only_setCell W.heap.size 1 _ (.int .i64 l)) (by omega)) (only_setCell W.heap.size 2 _ (.slice Av nv cv)) (by omega)
        exact (own_strs o1).wide (by omega) (Nat.le_refl _)
      · have := (unhide HBI).rd.le
        exact (((unhide HBI).rd.setOther _ _ _ (by omega) (by omega)).setOther _ _ _ (by omega) (by omega)).setOther _ _ _ (by omega) (by omega)
      · exact (((unhide HBI).only.setNew _ _ _ (Nat.le_refl _)).setNew _ _ _ (Nat.le_refl _)).setNew _ _ _ (Nat.le_refl _)
end Go.Proofs.YtgdohkemamlnhaaDoor
