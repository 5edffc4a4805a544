/- Peers that are right, both sides. -/
import Derived.Test.YtbkcgkffafjbgaaGreatDoorGb
import Derived.Test.YtbkcgkffafjbgaaGreatDoorTkm
/- Peers as values: the laws' helpers over them. -/
namespace Go.Proofs.YtbkcgkffafjbgaaGreatDoor
open Go.RowKit
set_option maxHeartbeats 4000000
set_option maxRecDepth 20000
abbrev peA (q : Value) (s e : Int) (i : Value) : Value := .agg #[q, .int .i64 s, .int .i64 e, i]
/-- a peer's cells in block b -/
structure PC (b : Nat) (q : Value) (s e : Int) (i : Value) (W : World) : Prop where
  lt : b < W.heap.size
  c0 : W.cell? ⟨b, 0, none⟩ = some q
  c1 : W.cell? ⟨b, 1, none⟩ = some (.int .i64 s)
  c2 : W.cell? ⟨b, 2, none⟩ = some (.int .i64 e)
  c3 : W.cell? ⟨b, 3, none⟩ = some i
theorem pc_row {W : World} {b : Nat} {q i : Value} {s e : Int} {ty : TypeId} (h : W.heap[b]? = some (.cells #[q, .int .i64 s, .int .i64 e, i] ty (0, 0))) : PC b q s e i W :=
  ⟨(Array.getElem?_eq_some_iff.1 h).1, row_cell h, row_cell h, row_cell h, row_cell h⟩
theorem pc_new (w : World) (q : Value) (s e : Int) (i : Value) (ty : TypeId) : PC w.heap.size q s e i (w.alloc (.cells #[q, .int .i64 s, .int .i64 e, i] ty)) :=
  pc_row (heap_alloc_new w _)
theorem PC.below {b : Nat} {q i : Value} {s e : Int} {W W' : World} (h : PC b q s e i W) (hb : Below W.heap.size W W') : PC b q s e i W' :=
  ⟨Nat.lt_of_lt_of_le h.lt hb.size, (cell_below hb h.lt).trans h.c0, (cell_below hb h.lt).trans h.c1, (cell_below hb h.lt).trans h.c2, (cell_below hb h.lt).trans h.c3⟩
/-- a value that reads as this peer -/
def peV (w : World) (v : Value) (p : Pe) : Prop := ∃ q i, v = peA q p.s p.e i ∧ strsV w q p.q ∧ strsV w i p.i
/-- a peer whose lists lie in blocks of their own, between lo and hi -/
def peO (lo hi : Nat) (w : World) (v : Value) (p : Pe) : Prop :=
  ∃ q i, v = peA q p.s p.e i ∧ ownG lo hi w q p.q ∧ ownG lo hi w i p.i ∧ ∀ g, q.ownBlock = some g → i.ownBlock ≠ some g
def peFits (p : Pe) : Prop := p.q.length ≤ maxLen ∧ p.i.length ≤ maxLen ∧ (∀ t ∈ p.q, t.size ≤ maxLen) ∧ ∀ t ∈ p.i, t.size ≤ maxLen
/-- what a law lets through -/
def peFew (p : Pe) : Prop := p.q.length ≤ 1048576 ∧ p.i.length ≤ 1048576
theorem peV.below {w w' : World} {v : Value} {p : Pe} (h : peV w v p) (hb : Below w.heap.size w w') : peV w' v p := by
  obtain ⟨a, b, rfl, h1, h2⟩ := h
  exact ⟨a, b, rfl, h1.below hb, h2.below hb⟩
theorem peO.pe {lo hi : Nat} {w : World} {v : Value} {p : Pe} (h : peO lo hi w v p) : peV w v p := by
  obtain ⟨a, b, rfl, ha, hb, _⟩ := h
  exact ⟨a, b, rfl, ha.strs, hb.strs⟩
theorem peO.below {lo hi : Nat} {w w' : World} {v : Value} {p : Pe} (h : peO lo hi w v p) (hb : Below w.heap.size w w') : peO lo hi w' v p := by
  obtain ⟨a, b, rfl, h1, h2, h3⟩ := h
  exact ⟨a, b, rfl, h1.below hb, h2.below hb, h3⟩
theorem peO.wide {lo hi lo' hi' : Nat} {w : World} {v : Value} {p : Pe} (h : peO lo hi w v p) (e1 : lo' ≤ lo) (e2 : hi ≤ hi') : peO lo' hi' w v p := by
  obtain ⟨a, b, rfl, h1, h2, h3⟩ := h
  exact ⟨a, b, rfl, h1.wide e1 e2, h2.wide e1 e2, h3⟩
theorem peO.touchR {lo hi lo' hi' : Nat} {w w' : World} {v : Value} {p : Pe} (h : peO lo hi w v p) (ht : TouchR lo' hi' w w') (hd : hi ≤ lo' ∨ hi' ≤ lo) : peO lo hi w' v p := by
  obtain ⟨a, b, rfl, h1, h2, h3⟩ := h
  exact ⟨a, b, rfl, h1.touchR ht hd, h2.touchR ht hd, h3⟩
theorem peO.lone {q lo hi : Nat} {w w' : World} {v : Value} {p : Pe} (h : peO lo hi w v p) (hl : Lone q w w') (hq : q < lo ∨ hi ≤ q) : peO lo hi w' v p := by
  obtain ⟨a, b, rfl, h1, h2, h3⟩ := h
  exact ⟨a, b, rfl, h1.lone hl hq, h2.lone hl hq, h3⟩
theorem peV.slices {w : World} {v : Value} {p : Pe} (h : peV w v p) : ∃ A c A' c', v = peA (.slice A p.q.length c) p.s p.e (.slice A' p.i.length c') := by
  obtain ⟨a, b, rfl, h1, h2⟩ := h
  obtain ⟨A, c, rfl⟩ := h1.slice
  obtain ⟨A', c', rfl⟩ := h2.slice
  exact ⟨A, c, A', c', rfl⟩
theorem apartG {lo mid hi : Nat} {w w' : World} {a b : Value} {xs ys : List ByteArray} (ha : ownG lo mid w a xs) (hb : ownG mid hi w' b ys) : ∀ g, a.ownBlock = some g → b.ownBlock ≠ some g := by
  intro g h1 h2
  have := ha.lies g h1
  have := hb.lies g h2
  omega
abbrev noP : Value := peA (.slice none 0 0) 0 0 (.slice none 0 0)
theorem own_noP (lo hi : Nat) (w : World) : peO lo hi w noP pe0 :=
  ⟨_, _, rfl, .inl ⟨rfl, rfl⟩, .inl ⟨rfl, rfl⟩, fun g h => by cases h⟩
theorem lone_setRow (q : Nat) (X : World) (cs : Array Value) : Lone q X (X.setRow q cs) :=
  ⟨rfl, rfl, rfl, by simp, fun k _ hne => get_setRow_other hne⟩
def markP (p : Pe) (k : Nat) : Pe := ⟨marksK k p.q.length, p.s, p.e, marksK (k + p.q.length) p.i.length⟩
end Go.Proofs.YtbkcgkffafjbgaaGreatDoor
/- Peers that are right, both sides. -/
namespace Go.Proofs.YtbkcgkffafjbgaaGreatDoor
open Go.RowKit
set_option maxHeartbeats 4000000
set_option maxRecDepth 20000
theorem drop_atS {ts : List ByteArray} {j : Nat} (h : j < ts.length) : ts.drop j = ts.getD j noS :: ts.drop (j + 1) := by
  rw [List.getD_eq_getElem?_getD, List.getElem?_eq_getElem h, Option.getD_some]
  exact List.drop_eq_getElem_cons h
theorem all_at {ks : List ByteArray} {P : ByteArray → Bool} (h : ks.all P = true) (j : Nat) (hj : j < ks.length) : P (ks.getD j noS) = true := by
  rw [List.getD_eq_getElem?_getD, List.getElem?_eq_getElem hj]
  exact List.all_eq_true.1 h _ (List.getElem_mem hj)
theorem all_no {ks : List ByteArray} {P : ByteArray → Bool} (j : Nat) (hj : j < ks.length) (h : P (ks.getD j noS) = false) : ks.all P = false := by
  rw [List.all_eq_false]
  refine ⟨ks.getD j noS, ?_, by rw [h]; decide⟩
  rw [List.getD_eq_getElem?_getD, List.getElem?_eq_getElem hj]
  exact List.getElem_mem hj
theorem all_yes {ks : List ByteArray} {P : ByteArray → Bool} (h : ∀ j, j < ks.length → P (ks.getD j noS) = true) : ks.all P = true := by
  rw [List.all_eq_true]
  intro x hx
  obtain ⟨j, hj, rfl⟩ := List.mem_iff_getElem.1 hx
  have := h j hj
  rwa [List.getD_eq_getElem?_getD, List.getElem?_eq_getElem hj] at this
/-- the place of the first one that is not so -/
def badP (P : ByteArray → Bool) : List ByteArray → Int → Int
  | [], _ => -1
  | x :: xs, k => if P x then badP P xs (k + 1) else k
theorem badP_all (P : ByteArray → Bool) : ∀ (xs : List ByteArray) (k : Int), 0 ≤ k → (badP P xs k = -1 ∧ xs.all P = true) ∨ (k ≤ badP P xs k ∧ xs.all P = false)
  | [], _, _ => .inl ⟨rfl, rfl⟩
  | x :: xs, k, h => by
    rw [badP, List.all_cons]
    cases hx : P x
    · right; exact ⟨Int.le_refl _, rfl⟩
    · rw [if_pos rfl, Bool.true_and]
      rcases badP_all P xs (k + 1) (by omega) with ⟨a, b⟩ | ⟨a, b⟩
      · exact .inl ⟨a, b⟩
      · exact .inr ⟨by omega, b⟩
theorem no59 (s : ByteArray) (w : World) : Calls Tryz.prog 66 #[.string s] w fun e w' => e = .returned (.bool (!is40 s)) ∧ w' = w := by
  go_enter Tryz.func66, Tryz.ntmps66
  go_wp2
  go_ret
  exact ⟨ret_bool (by unfold is40; rw [Bool.eq_iff_iff]; simp; try omega), rfl⟩
abbrev fn59 : Value := .func (.func 66) #[] #[]
theorem idx59 (v : Value) (xs : List ByteArray) (w : World) (hv : strsV w v xs) (hn : xs.length ≤ 2097152) :
    Calls Tryz.prog 128 #[v, fn59] w fun e w' => e = .returned (.int .i64 (badP is40 xs 0)) ∧ w' = w := by
  obtain ⟨A, cap, rfl, hc⟩ := hv
  have HC := hide hc
  have n0 : (0 : Int) ≤ (xs.length : Int) := by omega
  have n1 : (xs.length : Int) ≤ 2097152 := by omega
  clear hc
  go_enter Tryz.func128, Tryz.ntmps128
  go_wp2
  go_loopw [8] (fun i wr => ∃ j : Nat, j ≤ xs.length ∧ i = .int .i64 j ∧ badP is40 (xs.drop j) (j : Int) = badP is40 xs 0 ∧ wr = w) (fun i _ => xs.length - (intOf i).toNat)
  case atStart => exact ⟨0, by omega, rfl, rfl, rfl⟩
  case round =>
    obtain ⟨j, hj, rfl, hu, rfl⟩ := hrel
    have HU := hide hu
    clear hu
    by_cases hlt : j < xs.length
    · obtain ⟨b, off, hA, _, hcell⟩ := unhide HC (by omega)
      subst hA
      have q1 : (j : Int) < (xs.length : Int) := by omega
      have q0 : (0 : Int) ≤ (j : Int) := by omega
      have p0 := hcell j hlt
      have HJ := hide hlt
      have HD := hide (drop_atS hlt)
      clear hcell hlt hj
      generalize xs.getD j noS = x at *
      have K := hide (fun W => no59 x W)
      generalize hb : is40 x = bb at *
      cases bb
      · have HE : Hid (badP is40 xs 0 = (j : Int)) := hide (by rw [← unhide HU, unhide HD, badP, hb]; rfl)
        clear HU HD hb
        go_wp2_with fail
        refine (unhide K _).mono ?_
        rintro e w' ⟨rfl, hw'⟩
        have hw2 := hw'.symm
        subst hw2
        clear K
        go_wp2
        go_ret
        exact ⟨by rw [unhide HE]; rfl, rfl⟩
      · have HE : Hid (badP is40 (xs.drop (j + 1)) ((j : Int) + 1) = badP is40 xs 0) := hide (by rw [← unhide HU, unhide HD, badP, hb]; rfl)
        clear HU HD hb
        go_wp2_with fail
        refine (unhide K _).mono ?_
        rintro e w' ⟨rfl, hw'⟩
        have hw2 := hw'.symm
        subst hw2
        clear K
        go_wp2
        go_roundw
        case rel => exact ⟨j + 1, unhide HJ, by go_num, unhide HE, by first | rfl | trivial⟩
        case measure => have := unhide HJ; simp [intOf]; omega
    · obtain rfl : j = xs.length := by omega
      have HE : Hid (badP is40 xs 0 = -1) := hide (by rw [← unhide HU, List.drop_length]; rfl)
      clear hlt HU
      go_wp2
      go_ret
      exact ⟨by rw [unhide HE]; rfl, rfl⟩
theorem has59 (v : Value) (xs : List ByteArray) (w : World) (hv : strsV w v xs) (hn : xs.length ≤ 2097152) :
    Calls Tryz.prog 127 #[v, fn59] w fun e w' => e = .returned (.bool (!xs.all is40)) ∧ w' = w := by
  have K := hide (fun W (hW : strsV W v xs) => idx59 v xs W hW hn)
  have HV := hide hv
  obtain ⟨A, cap, rfl, _⟩ := hv
  have hb := badP_all is40 xs 0 (Int.le_refl _)
  generalize badP is40 xs 0 = k at *
  clear hn
  go_enter Tryz.func127, Tryz.ntmps127
  go_wp2_with fail
  refine (unhide K _ (unhide HV)).mono ?_
  rintro e w' ⟨rfl, hw'⟩
  have hw2 := hw'.symm
  subst hw2
  clear K HV
  rcases hb with ⟨h1, h2⟩ | ⟨h1, h2⟩
  · have HE := hide h2
    subst h1
    clear h2
    go_wp2
    go_ret
    exact ⟨ret_bool (by rw [unhide HE]; rfl), rfl⟩
  · have HE := hide h2
    clear h2
    go_wp2
    go_ret
    exact ⟨ret_bool (by rw [unhide HE]; simp; try omega), rfl⟩
theorem said50 (v : Value) (xs : List ByteArray) (M : Nat) (w : World) (hv : strsV w v xs) (hn : xs.length ≤ 2097152) :
    Calls Tryz.prog 122 #[v, .int .i64 (M : Int)] w fun e w' => e = .returned (.bool (decide (xs.length ≤ M) && xs.all is40)) ∧ w' = w := by
  have K := hide (has59 v xs w hv hn)
  obtain ⟨A, cap, rfl, _⟩ := hv
  have n0 : (0 : Int) ≤ (xs.length : Int) := by omega
  have n1 : (xs.length : Int) ≤ 2097152 := by omega
  by_cases h : xs.length ≤ M
  · rw [decide_eq_true h, Bool.true_and]
    have q : (xs.length : Int) ≤ (M : Int) := by omega
    clear h hn
    generalize xs.all is40 = bb at *
    go_enter Tryz.func122, Tryz.ntmps122
    go_wp2_with fail
    refine (unhide K).mono ?_
    rintro e w' ⟨rfl, hw'⟩
    have hw2 := hw'.symm
    subst hw2
    clear K
    cases bb
    · go_wp2
      go_ret
      exact ⟨rfl, rfl⟩
    · go_wp2
      go_ret
      exact ⟨rfl, rfl⟩
  · rw [decide_eq_false h, Bool.false_and]
    have q : (M : Int) < (xs.length : Int) := by omega
    clear h hn K
    go_enter Tryz.func122, Tryz.ntmps122
    go_wp2
    go_ret
    exact ⟨rfl, rfl⟩
theorem all_step {xs : List ByteArray} {j : Nat} (h : ∀ k, k < j → is40 (xs.getD k noS) = true) (g : is40 (xs.getD j noS) = true) : ∀ k, k < j + 1 → is40 (xs.getD k noS) = true := by
  intro k hk
  rcases Nat.lt_or_ge k j with c | c
  · exact h k c
  · obtain rfl : k = j := by omega
    exact g
def sqB (n : Int) : Bool := decide (0 ≤ n) && decide (n ≤ 65535)
theorem seq51 (n : Int) (w : World) : Calls Tryz.prog 123 #[.int .i64 n] w fun e w' => e = .returned (.bool (sqB n)) ∧ w' = w := by
  unfold sqB
  by_cases h0 : 0 ≤ n
  · by_cases h1 : n ≤ 65535
    · rw [decide_eq_true h0, decide_eq_true h1]
      go_enter Tryz.func123, Tryz.ntmps123
      go_wp2
      go_ret
      exact ⟨rfl, rfl⟩
    · rw [decide_eq_true h0, decide_eq_false h1]
      have h2 : 65535 < n := by omega
      clear h1
      go_enter Tryz.func123, Tryz.ntmps123
      go_wp2
      go_ret
      exact ⟨ret_bool (by simp; try omega), rfl⟩
  · rw [decide_eq_false h0]
    have h2 : n < 0 := by omega
    clear h0
    go_enter Tryz.func123, Tryz.ntmps123
    go_wp2
    go_ret
    exact ⟨rfl, rfl⟩
theorem in56 (n lo hi : Int) (w : World) : Calls Tryz.prog 30 #[.int .i64 n, .int .i64 lo, .int .i64 hi] w fun e w' => e = .returned (.bool (decide (lo ≤ n) && decide (n ≤ hi))) ∧ w' = w := by
  by_cases h0 : lo ≤ n
  · by_cases h1 : n ≤ hi
    · rw [decide_eq_true h0, decide_eq_true h1]
      go_enter Tryz.func30, Tryz.ntmps30
      go_wp2
      go_ret
      exact ⟨rfl, rfl⟩
    · rw [decide_eq_true h0, decide_eq_false h1]
      have h2 : hi < n := by omega
      clear h1
      go_enter Tryz.func30, Tryz.ntmps30
      go_wp2
      go_ret
      exact ⟨ret_bool (by simp; try omega), rfl⟩
  · rw [decide_eq_false h0]
    have h2 : n < lo := by omega
    clear h0
    go_enter Tryz.func30, Tryz.ntmps30
    go_wp2
    go_ret
    exact ⟨rfl, rfl⟩
theorem ok_parts (p : Pe) : peOK p = ((decide (p.q.length ≤ 8) && p.q.all is40) && (decide (p.i.length ≤ 100) && p.i.all is40) && sqB p.s && sqB p.e) := by
  unfold peOK sqB
  generalize decide (p.q.length ≤ 8) = a
  generalize decide (p.i.length ≤ 100) = b
  generalize (decide (0 ≤ p.s) && decide (p.s ≤ 65535)) = c
  generalize (decide (0 ≤ p.e) && decide (p.e ≤ 65535)) = d
  generalize p.q.all is40 = f
  generalize p.i.all is40 = g
  cases a <;> cases b <;> cases c <;> cases d <;> cases f <;> cases g <;> rfl
theorem ok16 (v : Value) (p : Pe) (w : World) (hv : peV w v p) (hf : peFew p) :
    Calls Tryz.prog 110 #[v] w fun e w' => e = .returned (.bool (peOK p)) ∧ Below w.heap.size w w' := by
  rw [ok_parts]
  obtain ⟨q, i, rfl, hq, hi⟩ := hv
  obtain ⟨f1, f2⟩ := hf
  obtain ⟨xq, s, e, xi⟩ := p
  dsimp only at *
  have B1 : Below w.heap.size w (w.alloc (.cells #[q, .int .i64 s, .int .i64 e, i] 53)) := bl_al (Below.refl _ _)
  have K1 := hide (said50 q xq 8 _ (hq.below B1) (by omega))
  have K2 := hide (said50 i xi 100 _ (hi.below B1) (by omega))
  have K3 := hide (seq51 s (w.alloc (.cells #[q, .int .i64 s, .int .i64 e, i] 53)))
  have K4 := hide (seq51 e (w.alloc (.cells #[q, .int .i64 s, .int .i64 e, i] 53)))
  obtain ⟨_, c0, c1, c2, c3⟩ := pc_new w q s e i 53
  have HB := hide B1
  obtain ⟨A, ca, rfl⟩ := hq.slice
  obtain ⟨A2, cb, rfl⟩ := hi.slice
  clear B1 hq hi f1 f2
  generalize (decide (xq.length ≤ 8) && xq.all is40) = b1 at *
  generalize (decide (xi.length ≤ 100) && xi.all is40) = b2 at *
  generalize sqB s = b3 at *
  generalize sqB e = b4 at *
  go_enter Tryz.func110, Tryz.ntmps110
  go_wp2_with fail
  generalize w.alloc (.cells #[.slice A xq.length ca, .int .i64 s, .int .i64 e, .slice A2 xi.length cb] 53) = w1 at *
  refine (unhide K1).mono ?_
  rintro e1 w2 ⟨rfl, hw⟩
  have hw2 := hw.symm
  subst hw2
  clear K1
  cases b1
  · clear K2 K3 K4
    go_wp2
    go_ret
    exact ⟨rfl, unhide HB⟩
  · go_wp2_with fail
    refine (unhide K2).mono ?_
    rintro e1 w2 ⟨rfl, hw⟩
    have hw2 := hw.symm
    subst hw2
    clear K2
    cases b2
    · clear K3 K4
      go_wp2
      go_ret
      exact ⟨rfl, unhide HB⟩
    · go_wp2_with fail
      refine (unhide K3).mono ?_
      rintro e1 w2 ⟨rfl, hw⟩
      have hw2 := hw.symm
      subst hw2
      clear K3
      cases b3
      · clear K4
        go_wp2
        go_ret
        exact ⟨rfl, unhide HB⟩
      · go_wp2_with fail
        refine (unhide K4).mono ?_
        rintro e1 w2 ⟨rfl, hw⟩
        have hw2 := hw.symm
        subst hw2
        clear K4
        cases b4
        · go_wp2
          go_ret
          exact ⟨rfl, unhide HB⟩
        · go_wp2
          go_ret
          exact ⟨rfl, unhide HB⟩
end Go.Proofs.YtbkcgkffafjbgaaGreatDoor
