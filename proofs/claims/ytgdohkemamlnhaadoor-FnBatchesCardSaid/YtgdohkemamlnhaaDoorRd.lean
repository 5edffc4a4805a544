/- A reader of bytes: what its methods hand back. -/
import Derived.Test.YtgdohkemamlnhaaDoorAs
namespace Go.Proofs.YtgdohkemamlnhaaDoor
open Go.RowKit
set_option maxHeartbeats 4000000
set_option maxRecDepth 20000
/-- a slice that reads as these bytes, its room said -/
def bytesC (w : World) (v : Value) (xs : List Int) : Prop :=
  ∃ A cap, v = .slice A xs.length cap ∧ xs.length ≤ cap ∧ isB xs ∧ ((A = none ∧ xs = []) ∨ ∃ b off, A = some ⟨b, off, none⟩ ∧ rowAt w b off xs)
theorem bytesC.bytes {w : World} {v : Value} {xs : List Int} (h : bytesC w v xs) : bytesV w v xs := by
  obtain ⟨A, cap, h1, _, h2, ⟨rfl, rfl⟩ | ⟨b, off, rfl, hr⟩⟩ := h
  · exact ⟨none, cap, h1, h2, fun h => by simp at h⟩
  · exact ⟨_, cap, h1, h2, fun _ => ⟨b, off, rfl, hr.lt, hr.cell⟩⟩
theorem ownB.bytesC {base : Nat} {w : World} {v : Value} {xs : List Int} (h : ownB base w v xs) : bytesC w v xs := by
  obtain ⟨hb, ⟨rfl, rfl⟩ | ⟨g, cap, rest, rfl, hg, hc, hcp⟩⟩ := h
  · exact ⟨none, 0, rfl, Nat.le_refl _, hb, .inl ⟨rfl, rfl⟩⟩
  · exact ⟨_, cap, rfl, hcp, hb, .inr ⟨g, 0, rfl, (Array.getElem?_eq_some_iff.1 hc).1, fun i hi => by rw [Nat.zero_add]; exact cell_rowObj hc i hi⟩⟩
theorem bytesC.conv {w : World} {v : Value} {xs : List Int} (h : bytesC w v xs) : (convert 22 9 v).run Tryd.prog w = .ok (.string (strOfNums xs)) w := by
  obtain ⟨A, cap, rfl, _, _, ⟨rfl, rfl⟩ | ⟨b, off, rfl, hr⟩⟩ := h
  · exact run_convert_bytes_nil _ 22 5 Tryd.underlying22 Tryd.underlying5 0 cap 9 Tryd.underlying9
  · exact hr.conv _ _ rfl
theorem rowAt.take {W : World} {g off : Nat} {xs : List Int} (h : rowAt W g off xs) (k : Nat) : rowAt W g off (xs.take k) :=
  ⟨h.lt, fun i hi => by
    have hi' : i < k ∧ i < xs.length := by rw [List.length_take] at hi; omega
    rw [h.cell i hi'.2]
    congr 2
    rw [List.getD_eq_getElem?_getD, List.getD_eq_getElem?_getD, List.getElem?_take_of_lt hi'.1]⟩
theorem isB.take {xs : List Int} (h : isB xs) (k : Nat) : isB (xs.take k) := fun x hx => h x (List.mem_of_mem_take hx)
theorem isB.drop {xs : List Int} (h : isB xs) (k : Nat) : isB (xs.drop k) := fun x hx => h x (List.mem_of_mem_drop hx)
theorem slice_hi (A : Option Addr) (l cap n : Nat) (hl : l ≤ cap) (hn : n ≤ l) (W : World) : (Instr.slice 22 (.slice A l cap) none (some (.int .i64 (n : Int))) none).run Tryd.prog W = .ok (.slice A n cap) W := by
  have h0 : (0 : Int) ≤ (n : Int) := by omega
  have h1 : (n : Int) ≤ (cap : Int) := by omega
  cases A with
  | none =>
    go_simp
  | some a =>
    go_simp
theorem slice_lo (A : Option Addr) (l cap n : Nat) (hl : l ≤ cap) (hn : n ≤ l) (W : World) : ∃ A', (Instr.slice 22 (.slice A l cap) (some (.int .i64 (n : Int))) none none).run Tryd.prog W = .ok (.slice A' (l - n) (cap - n)) W ∧ (A = none → A' = none) ∧ (∀ b off, A = some ⟨b, off, none⟩ → ∃ off', A' = some ⟨b, off', none⟩ ∧ (n < l → off' = off + n)) := by
  have h0 : (0 : Int) ≤ (n : Int) := by omega
  have h1 : (n : Int) ≤ (l : Int) := by omega
  have h2 : (l : Int) ≤ (cap : Int) := by omega
  cases A with
  | none =>
    refine ⟨none, ?_, fun _ => rfl, fun _ _ h => by cases h⟩
    go_simp
  | some a =>
    obtain ⟨b, off, nb⟩ := a
    by_cases h : cap = n
    · refine ⟨some ⟨b, off, nb⟩, ?_, (fun h => by cases h), fun b' off' e => ⟨off', e, fun _ => by omega⟩⟩
      go_simp
    · refine ⟨some ((⟨b, off, nb⟩ : Addr).add n), ?_, (fun h => by cases h), fun b' off' e => ⟨off' + n, ?_, fun _ => rfl⟩⟩
      · go_simp
      · simp only [Option.some.injEq, Addr.mk.injEq] at e
        obtain ⟨rfl, rfl, rfl⟩ := e
        rw [Addr.add_lit]
theorem bytesC.take {w : World} {A : Option Addr} {l cap : Nat} {xs : List Int} (h : bytesC w (.slice A l cap) xs) (n : Nat) (hn : n ≤ xs.length) : bytesC w (.slice A n cap) (xs.take n) := by
  obtain ⟨A', cap', e, hc, hi, hr⟩ := h
  simp only [Value.slice.injEq] at e
  obtain ⟨rfl, rfl, rfl⟩ := e
  refine ⟨A, cap, by rw [List.length_take, Nat.min_eq_left hn], by rw [List.length_take]; omega, hi.take n, ?_⟩
  rcases hr with ⟨rfl, rfl⟩ | ⟨b, off, rfl, hr⟩
  · exact .inl ⟨rfl, by simp⟩
  · exact .inr ⟨b, off, rfl, hr.take n⟩
/-- a reader's fault: of which part, which code -/
def faultV : Option (ByteArray × Int) → Value
  | none => .nilIface
  | some (p, c) => .iface 89 (.agg #[.string p, .iface 87 (.agg #[.int .i64 c])])
/-- nothing that was there but block q has turned -/
structure Only (q : Nat) (w w' : World) : Prop where
  os : w'.os = w.os
  tape : w'.tape = w.tape
  output : w'.output = w.output
  size : w.heap.size ≤ w'.heap.size
  block : ∀ k, k < w.heap.size → k ≠ q → w'.heap[k]? = w.heap[k]?
theorem Only.refl (q : Nat) (w : World) : Only q w w := ⟨rfl, rfl, rfl, Nat.le_refl _, fun _ _ _ => rfl⟩
theorem Only.trans {q : Nat} {a b c : World} (h : Only q a b) (g : Only q b c) : Only q a c :=
  ⟨g.os.trans h.os, g.tape.trans h.tape, g.output.trans h.output, Nat.le_trans h.size g.size, fun k hk hq => (g.block k (Nat.lt_of_lt_of_le hk h.size) hq).trans (h.block k hk hq)⟩
theorem Only.of_below {q : Nat} {a b : World} (h : Below a.heap.size a b) : Only q a b := ⟨h.os, h.tape, h.output, h.size, fun k hk _ => h.block k hk⟩
theorem Only.below {q B : Nat} {x a b : World} (h : Only q a b) (hx : Below B x a) (hB : B ≤ q) (hs : B ≤ a.heap.size) : Below B x b :=
  ⟨h.os.trans hx.os, h.tape.trans hx.tape, h.output.trans hx.output, Nat.le_trans hx.size h.size, fun k hk => (h.block k (by omega) (by omega)).trans (hx.block k hk)⟩
/-- a reader in block q, its rest and its fault; the bytes lie in what was there at w0 -/
structure Rd (w0 : World) (q : Nat) (W : World) (xs : List Int) (f : Option (ByteArray × Int)) : Prop where
  bel : Below w0.heap.size w0 W
  le : w0.heap.size ≤ q
  row : ∃ v, W.heap[q]? = some (.cells #[v, faultV f] 74 (0, 0)) ∧ bytesC w0 v xs
theorem Rd.lt {w0 : World} {q : Nat} {W : World} {xs : List Int} {f : Option (ByteArray × Int)} (h : Rd w0 q W xs f) : q < W.heap.size := by
  obtain ⟨v, h1, _⟩ := h.row
  exact (Array.getElem?_eq_some_iff.1 h1).1
theorem Rd.below {w0 : World} {q : Nat} {W W' : World} {xs : List Int} {f : Option (ByteArray × Int)} (h : Rd w0 q W xs f) (hb : Below W.heap.size W W') : Rd w0 q W' xs f := by
  obtain ⟨v, h1, h2⟩ := h.row
  exact ⟨h.bel.trans (hb.mono h.bel.size), h.le, v, (hb.block q h.lt).trans h1, h2⟩
theorem bytesC.below {w w' : World} {v : Value} {xs : List Int} (h : bytesC w v xs) (hb : Below w.heap.size w w') : bytesC w' v xs := by
  obtain ⟨A, cap, rfl, hc, hi, h | ⟨b, off, rfl, hr⟩⟩ := h
  · exact ⟨A, cap, rfl, hc, hi, .inl h⟩
  · exact ⟨_, cap, rfl, hc, hi, .inr ⟨b, off, rfl, hr.below hb⟩⟩
theorem set_second {X : World} {t : Nat} {a b v : Value} {ty : TypeId} (h : X.heap[t]? = some (.cells #[a, b] ty (0, 0))) : (X.setCell ⟨t, 1, none⟩ v).heap[t]? = some (.cells #[a, v] ty (0, 0)) := by
  simp [World.setCell, Array.getElem?_modify, h]
theorem set_first {X : World} {t : Nat} {a b v : Value} {ty : TypeId} (h : X.heap[t]? = some (.cells #[a, b] ty (0, 0))) : (X.setCell ⟨t, 0, none⟩ v).heap[t]? = some (.cells #[v, b] ty (0, 0)) := by
  simp [World.setCell, Array.getElem?_modify, h]
theorem only_setCell (q i : Nat) (X : World) (v : Value) : Only q X (X.setCell ⟨q, i, none⟩ v) :=
  ⟨rfl, rfl, rfl, by simp [World.setCell], fun k _ hq => by simp only [World.setCell]; rw [Array.getElem?_modify, if_neg (by omega)]⟩
/-- the fault that stands behind another one -/
def orF (f : Option (ByteArray × Int)) (p : ByteArray) (c : Int) : Option (ByteArray × Int) := match f with | none => some (p, c) | some x => some x
theorem fail51 (w0 : World) (q : Nat) (W : World) (xs : List Int) (f : Option (ByteArray × Int)) (p : ByteArray) (c : Int) (h : Rd w0 q W xs f) :
    Calls Tryd.prog 51 #[.pointer (some ⟨q, 0, none⟩), .string p, .int .i64 c] W fun e w' => (∃ u, e = .returned u) ∧ Rd w0 q w' xs (orF f p c) ∧ Only q W w' := by
  obtain ⟨v, hr, hv⟩ := h.row
  have c0 : W.cell? ⟨q, 1, none⟩ = some (faultV f) := by rw [Go.cell_of_row _ _ _ _ _ _ hr]; rfl
  have fz : W.frozen? ⟨q, 1, none⟩ = false := by simp [World.frozen?, hr]
  have H := hide h
  have HR := hide hr
  have HV := hide hv
  clear h hr hv
  cases f with
  | some x =>
    obtain ⟨p', c'⟩ := x
    simp only [faultV] at c0
    go_enter Tryd.func51, Tryd.ntmps51
    go_wp2
    go_returns
    exact ⟨⟨_, rfl⟩, unhide H, Only.refl _ _⟩
  | none =>
    simp only [faultV] at c0
    go_enter Tryd.func51, Tryd.ntmps51
    go_wp2
    go_returns
    exact ⟨⟨_, rfl⟩, ⟨below_setCell (unhide H).bel (unhide H).le, (unhide H).le, v, set_second (unhide HR), unhide HV⟩, only_setCell _ _ _ _⟩
theorem fc_none (W : World) : Calls Tryd.prog 52 #[.nilIface] W fun e w' => e = .returned (.int .i64 0) ∧ Below W.heap.size W w' := by
  go_enter Tryd.func52, Tryd.ntmps52
  go_wp2_with (first | (go_at_call 64; refine (as_nil _ _).mono ?_; rintro e w1 ⟨rfl, rfl⟩))
  go_ret
  exact ⟨rfl, (Below.refl _ _).alloc (Nat.le_refl _) _⟩
theorem fc_some (p : ByteArray) (c : Int) (W : World) (hg : W.cell? ⟨0, 0, none⟩ = some (.iface 108 (.agg #[.pointer (some ⟨1, 72, none⟩)]))) (h0 : 0 < W.heap.size) :
    Calls Tryd.prog 52 #[faultV (some (p, c))] W fun e w' => e = .returned (.int .i64 c) ∧ Below W.heap.size W w' := by
  have h := hide (as64 c p W.heap.size (.int .i64 0) (W.alloc (.cells #[.int .i64 0] 87)) (by rw [World.cell?_alloc_lt _ _ ⟨0, 0, none⟩ h0]; exact hg) (heap_alloc_new W _) h0)
  have B0 := hide (show Below W.heap.size W (W.alloc (.cells #[.int .i64 0] 87)) from bl_al (Below.refl _ _))
  clear hg
  unfold faultV
  go_enter Tryd.func52, Tryd.ntmps52
  go_wp2_with (first | (go_at_call 64; refine (unhide h).mono ?_; rintro e w1 ⟨rfl, r1, b1⟩; have c1 : w1.cell? ⟨W.heap.size, 0, none⟩ = some (.int .i64 c) := by (rw [Go.cell_of_row _ _ _ _ _ _ r1]; rfl)))
  go_ret
  exact ⟨rfl, (unhide B0).trans b1⟩
theorem text_ok (w0 : World) (q : Nat) (W : World) (xs : List Int) (p : ByteArray) (n : Nat) (hn : n ≤ xs.length) (h : Rd w0 q W xs none) :
    Calls Tryd.prog 54 #[.pointer (some ⟨q, 0, none⟩), .string p, .int .i64 (n : Int)] W fun e w' => e = .returned (.string (strOfNums (xs.take n))) ∧ Rd w0 q w' (xs.drop n) none ∧ Only q W w' := by
  obtain ⟨v, hr, hv⟩ := h.row
  have hv' := hv
  obtain ⟨A, cap, rfl, hc, hi, hd⟩ := hv'
  have c0 : W.cell? ⟨q, 0, none⟩ = some (.slice A xs.length cap) := by rw [Go.cell_of_row _ _ _ _ _ _ hr]; rfl
  have c1 : W.cell? ⟨q, 1, none⟩ = some .nilIface := by rw [Go.cell_of_row _ _ _ _ _ _ hr]; rfl
  have fz : W.frozen? ⟨q, 0, none⟩ = false := by simp [World.frozen?, hr]
  have sh := slice_hi A xs.length cap n hc hn
  obtain ⟨A', sl, hA0, hA1⟩ := slice_lo A xs.length cap n hc hn W
  have cv := ((hv.take n hn).below h.bel).conv
  have q1 : (n : Int) ≤ (xs.length : Int) := by omega
  have hv2 : bytesC w0 (.slice A' (xs.length - n) (cap - n)) (xs.drop n) := by
    refine ⟨A', cap - n, by rw [List.length_drop], by rw [List.length_drop]; omega, hi.drop n, ?_⟩
    rcases hd with ⟨e, rfl⟩ | ⟨b, off, e, hrow⟩
    · exact .inl ⟨hA0 e, by simp⟩
    · obtain ⟨off', e', ho⟩ := hA1 b off e
      refine .inr ⟨b, off', e', ?_⟩
      rcases Nat.lt_or_ge n xs.length with hlt | hge
      · rw [ho hlt]; exact hrow.drop n
      · rw [List.drop_eq_nil_of_le hge]
        exact ⟨hrow.lt, fun i hi => by simp at hi⟩
  have H := hide h
  have HR := hide hr
  have HV := hide hv2
  clear h hr hv hv2 hA0 hA1 hd hi
  go_enter Tryd.func54, Tryd.ntmps54
  go_wp2
  go_ret
  exact ⟨rfl, ⟨below_setCell (unhide H).bel (unhide H).le, (unhide H).le, _, set_first (unhide HR), unhide HV⟩, only_setCell _ _ _ _⟩
theorem text_some (w0 : World) (q : Nat) (W : World) (xs : List Int) (p : ByteArray) (n : Nat) (x : ByteArray × Int) (h : Rd w0 q W xs (some x)) :
    Calls Tryd.prog 54 #[.pointer (some ⟨q, 0, none⟩), .string p, .int .i64 (n : Int)] W fun e w' => e = .returned (.string (strOfNums [])) ∧ Rd w0 q w' xs (some x) ∧ Only q W w' := by
  obtain ⟨v, hr, hv⟩ := h.row
  obtain ⟨A, cap, rfl, hc, hi, hd⟩ := hv
  obtain ⟨p', c'⟩ := x
  have c0 : W.cell? ⟨q, 0, none⟩ = some (.slice A xs.length cap) := by rw [Go.cell_of_row _ _ _ _ _ _ hr]; rfl
  have c1 : W.cell? ⟨q, 1, none⟩ = some (.iface 89 (.agg #[.string p', .iface 87 (.agg #[.int .i64 c'])])) := by rw [Go.cell_of_row _ _ _ _ _ _ hr]; rfl
  have hf := hide (fail51 w0 q W xs (some (p', c')) p 3 h)
  have H := hide h
  clear h hr hd hi
  by_cases hl : xs.length < n
  · have q1 : (xs.length : Int) < (n : Int) := by omega
    clear hl
    go_enter Tryd.func54, Tryd.ntmps54
    go_wp2_with fail
    refine (unhide hf).mono ?_
    rintro e w1 ⟨⟨u, rfl⟩, r1, o1⟩
    obtain ⟨v1, hr1, _⟩ := r1.row
    have d1 : w1.cell? ⟨q, 1, none⟩ = some (.iface 89 (.agg #[.string p', .iface 87 (.agg #[.int .i64 c'])])) := by rw [Go.cell_of_row _ _ _ _ _ _ hr1]; rfl
    have R1 := hide r1
    clear r1 hr1
    go_wp2
    go_ret
    exact ⟨rfl, unhide R1, o1⟩
  · have q1 : (n : Int) ≤ (xs.length : Int) := by omega
    clear hl
    go_enter Tryd.func54, Tryd.ntmps54
    go_wp2
    go_ret
    exact ⟨rfl, unhide H, Only.refl _ _⟩
theorem text_short (w0 : World) (q : Nat) (W : World) (xs : List Int) (p : ByteArray) (n : Nat) (hn : xs.length < n) (h : Rd w0 q W xs none) :
    Calls Tryd.prog 54 #[.pointer (some ⟨q, 0, none⟩), .string p, .int .i64 (n : Int)] W fun e w' => e = .returned (.string (strOfNums [])) ∧ Rd w0 q w' xs (some (p, 3)) ∧ Only q W w' := by
  obtain ⟨v, hr, hv⟩ := h.row
  obtain ⟨A, cap, rfl, hc, hi, hd⟩ := hv
  have c0 : W.cell? ⟨q, 0, none⟩ = some (.slice A xs.length cap) := by rw [Go.cell_of_row _ _ _ _ _ _ hr]; rfl
  have hf := hide (fail51 w0 q W xs none p 3 h)
  have q1 : (xs.length : Int) < (n : Int) := by omega
  clear h hr hd hi hn
  go_enter Tryd.func54, Tryd.ntmps54
  go_wp2_with fail
  refine (unhide hf).mono ?_
  rintro e w1 ⟨⟨u, rfl⟩, r1, o1⟩
  obtain ⟨v1, hr1, _⟩ := r1.row
  have d1 : w1.cell? ⟨q, 1, none⟩ = some (.iface 89 (.agg #[.string p, .iface 87 (.agg #[.int .i64 3])])) := by rw [Go.cell_of_row _ _ _ _ _ _ hr1]; rfl
  have R1 := hide r1
  clear r1 hr1
  go_wp2
  go_ret
  exact ⟨rfl, unhide R1, o1⟩
end Go.Proofs.YtgdohkemamlnhaaDoor
