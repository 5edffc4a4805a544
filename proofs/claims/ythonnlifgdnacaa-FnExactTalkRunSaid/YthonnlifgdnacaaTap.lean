/- Acts that are drawn, as a list. -/
import Derived.Test.YthonnlifgdnacaaTao
namespace Go.Proofs.Ythonnlifgdnacaa
open Go.RowKit
set_option maxHeartbeats 4000000
set_option maxRecDepth 20000
set_option linter.unusedVariables false
def flatT : List Ta → List Value
  | [] => []
  | a :: l => [.int .i64 a.k, .int .i64 a.w, .string a.t, .bool a.la, .bool a.lb] ++ flatT l
theorem flatT_len : ∀ l : List Ta, (flatT l).length = l.length * 5
  | [] => rfl
  | a :: l => by simp only [flatT, List.length_append, List.length_cons, List.length_nil, flatT_len l]; omega
theorem flatT_app : ∀ l m : List Ta, flatT (l ++ m) = flatT l ++ flatT m
  | [], _ => rfl
  | a :: l, m => by simp only [List.cons_append, flatT, flatT_app l m, List.append_assoc]
theorem flatT_at : ∀ (l : List Ta) (i k : Nat), i < l.length → k < 5 → (flatT l)[i * 5 + k]? = ([.int .i64 (l.getD i ta0).k, .int .i64 (l.getD i ta0).w, .string (l.getD i ta0).t, .bool (l.getD i ta0).la, .bool (l.getD i ta0).lb])[k]?
  | [], i, k, h, _ => by simp at h
  | a :: l, 0, k, _, hk => by
    simp only [flatT, Nat.zero_mul, Nat.zero_add]
    rw [List.getElem?_append_left (by simpa using hk)]; rfl
  | a :: l, i + 1, k, h, hk => by
    have := flatT_at l i k (by simpa using h) hk
    simp only [flatT]
    rw [List.getElem?_append_right (by simp; omega)]
    simp only [List.length_cons, List.length_nil]
    rw [show (i + 1) * 5 + k - (0 + 1 + 1 + 1 + 1 + 1) = i * 5 + k by omega, this]
    rfl
theorem info35 : (Try.prog.info? 35).map (fun i => (i.zero, i.size, i.bytes)) = some (some (.agg #[.int .i64 0, .int .i64 0, .string ⟨#[]⟩, .bool false, .bool false]), 5, 40) := by kernel_rfl
theorem acts_row {base : Nat} {w : World} {v : Value} {l : List Ta} {n : Nat} (hn : n = l.length) (h : w.ownsRow base 35 5 v n (flatT l)) : actsV w v l := by
  subst hn
  obtain ⟨_, ⟨rfl, h0⟩ | ⟨g, cap, cur, rfl, hb, hc, h1, _, h3, h4⟩⟩ := h
  · obtain rfl := List.length_eq_zero_iff.1 h0
    exact ⟨none, 0, rfl, fun h => by simp at h⟩
  · refine ⟨_, _, rfl, fun _ => ⟨g, 0, rfl, (Array.getElem?_eq_some_iff.1 hc).1, fun i hi => ?_⟩⟩
    have key : ∀ k, k < 5 → w.cell? ⟨g, 0 + i * 5 + k, none⟩ = ([.int .i64 (l.getD i ta0).k, .int .i64 (l.getD i ta0).w, .string (l.getD i ta0).t, .bool (l.getD i ta0).la, .bool (l.getD i ta0).lb] : List Value)[k]? := fun k hk => by
      have h5 : (cur.toList.take (l.length * 5))[i * 5 + k]? = (flatT l)[i * 5 + k]? := by rw [h4]
      rw [List.getElem?_take, if_pos (by omega), flatT_at l i k hi hk, Array.getElem?_toList] at h5
      rw [row_cell hc, Nat.zero_add]
      exact h5
    exact ⟨key 0 (by omega), key 1 (by omega), key 2 (by omega), key 3 (by omega), key 4 (by omega)⟩
theorem run_pushA (W : World) (ty : Nat) (base n g0 c0 : Nat) (ps : List Ta) (hown : W.ownsRow base 35 5 (.slice (some ⟨g0, 0, none⟩) n c0) n (flatT ps)) (G : Nat) (hG : G = W.heap.size) (a : Ta) (hm : n ≤ 2097152) (hb : base ≤ W.heap.size) :
    ∃ (g c : Nat) (w' : World), (Builtin.append_ #[23, 23] ty #[.slice (some ⟨g0, 0, none⟩) n c0, .slice (some ⟨G, 0, none⟩) 1 1]).run Try.prog (W.alloc (.cells #[.int .i64 a.k, .int .i64 a.w, .string a.t, .bool a.la, .bool a.lb] 35)) = .ok (.slice (some ⟨g, 0, none⟩) (n + 1) c) w' ∧
      (W.alloc (.cells #[.int .i64 a.k, .int .i64 a.w, .string a.t, .bool a.la, .bool a.lb] 35)).grownBy w' (some g0) ∧ base ≤ g0 ∧ w'.ownsRow base 35 5 (.slice (some ⟨g, 0, none⟩) (n + 1) c) (n + 1) (flatT (ps ++ [a])) := by
  subst hG
  obtain ⟨i0, hi0, hz0, hz1, hz2⟩ := info_parts info35
  obtain ⟨g, c, w', hr, h2, h4, h5, _⟩ := run_append_lies (P := Try.prog) (W.alloc (.cells #[.int .i64 a.k, .int .i64 a.w, .string a.t, .bool a.la, .bool a.lb] 35)) 23 ty base 35 i0 _ 5 40 Try.underlying23 hi0 hz0 hz1 hz2 rfl (by omega) (.slice (some ⟨g0, 0, none⟩) n c0) n (flatT ps) (hown.alloc _) ⟨W.heap.size, 0, none⟩ 1 1 [.int .i64 a.k, .int .i64 a.w, .string a.t, .bool a.la, .bool a.lb] rfl
    (fun j u hj => by
      rw [Addr.add_lit, Nat.zero_add, row_cell (heap_alloc_new W (.cells #[.int .i64 a.k, .int .i64 a.w, .string a.t, .bool a.la, .bool a.lb] 35))]
      simpa using hj) (by simp [Value.oneCell']) (by omega) (by unfold maxLen; omega) (by omega) (by simp; omega) _ rfl
  have hg0 := hown.lt g0 rfl
  exact ⟨g, c, w', hr, h4, hg0.1, by rw [flatT_app]; exact h2⟩
theorem wpList_pushA (W : World) {ops : Array Oper} {rest : List Oper} {o : Oper} {a : Act} {Q : Exit → Act → World → Prop} (hgd : o.guard = none) (s x : Operand)
    (ho : o.op = .call { callee := .builtin .append, args := #[s, x], argTypes := #[23, 23] })
    (base n g0 c0 : Nat) (ps : List Ta) (hs : a.eval s = .slice (some ⟨g0, 0, none⟩) n c0) (hown : W.ownsRow base 35 5 (.slice (some ⟨g0, 0, none⟩) n c0) n (flatT ps))
    (G : Nat) (hG : G = W.heap.size) (t : Ta) (hxv : a.eval x = .slice (some ⟨G, 0, none⟩) 1 1) (hm : n ≤ 2097152) (hb : base ≤ W.heap.size)
    (h : ∀ (g c : Nat) (w' : World), (W.alloc (.cells #[.int .i64 t.k, .int .i64 t.w, .string t.t, .bool t.la, .bool t.lb] 35)).grownBy w' (some g0) → base ≤ g0 → w'.ownsRow base 35 5 (.slice (some ⟨g, 0, none⟩) (n + 1) c) (n + 1) (flatT (ps ++ [t])) → wpList Try.prog ops Q rest (a.put o.dst (.slice (some ⟨g, 0, none⟩) (n + 1) c)) w') : wpList Try.prog ops Q (o :: rest) a (W.alloc (.cells #[.int .i64 t.k, .int .i64 t.w, .string t.t, .bool t.la, .bool t.lb] 35)) :=
  wpList_plain hgd fun K hK => by
    obtain ⟨g, c, w', hr, h1, h2, h3⟩ := run_pushA W o.type base n g0 c0 ps hown G hG t hm hb
    unfold Oper.wp execOp
    simp only [ho, resolve, invoke, builtin, Sem.run_bind, Sem.run_pure, Result.andThen_ok, List.map_toArray, List.map_cons, List.map_nil, hs, hxv, hr]
    exact hK _ _ (h g c w' h1 h2 h3)
/-- the act under way, in its block -/
structure AB (q : Nat) (a : Ta) (W : World) : Prop where
  row : W.heap[q]? = some (.cells #[.int .i64 a.k, .int .i64 a.w, .string a.t, .bool a.la, .bool a.lb] 35 (0, 0))
theorem AB.lone {q p : Nat} {a : Ta} {W W' : World} (h : AB q a W) (hl : Lone p W W') (hq : q ≠ p) : AB q a W' := ⟨(hl.block q (Array.getElem?_eq_some_iff.1 h.row).1 hq).trans h.row⟩
theorem ownsRow_far {w w' : World} {q base : Nat} {e : TypeId} {size : Nat} {v : Value} {n : Nat} {xs : List Value} (h : w.ownsRow base e size v n xs) (hl : Lone q w w') (hq : ∀ k, v.ownBlock = some k → k ≠ q) : w'.ownsRow base e size v n xs := by
  refine ⟨h.1, ?_⟩
  rcases h.2 with h | ⟨g, c, cur, hv, hb, hg, h1⟩
  · exact .inl h
  · exact .inr ⟨g, c, cur, hv, hb, (hl.block g (Array.getElem?_eq_some_iff.1 hg).1 (hq g (by rw [hv]; rfl))).trans hg, h1⟩
theorem grown_setRow (q : Nat) (X : World) (cs : Array Value) : X.grownBy (X.setRow q cs) (some q) :=
  ⟨rfl, rfl, rfl, by simp, fun k _ hne => get_setRow_other (fun e => hne (by rw [e]))⟩
/-- what is carried from world to world while acts are drawn -/
structure TS (W : World) (p : Nat) (A : Option Addr) (n cap K g c m : Nat) (al : List Ta) (X : World) : Prop where
  own : X.ownsRow W.heap.size 35 5 (.slice (some ⟨g, 0, none⟩) m c) m (flatT al)
  src : Sr p A n cap K X
  lone : Lone p W X
section
variable {W : World} {p : Nat} {A : Option Addr} {n cap K g c m : Nat} {al : List Ta} {X Y : World}
theorem TS.step (h : TS W p A n cap K g c m al X) (hp : p < W.heap.size) (hs : Sr p A n cap (K + 1) Y) (hl : Lone p X Y) : TS W p A n cap (K + 1) g c m al Y :=
  ⟨ownsRow_lone h.own hl hp, hs, h.lone.trans hl⟩
theorem TS.below (h : TS W p A n cap K g c m al X) (hb : Below X.heap.size X Y) : TS W p A n cap K g c m al Y :=
  ⟨own_kept h.own hb, h.src.below hb, h.lone.trans (Lone.of_below hb)⟩
theorem TS.put (h : TS W p A n cap K g c m al X) (hp : p < W.heap.size) (hA : ∀ b off, A = some ⟨b, off, none⟩ → 0 < n → b < W.heap.size) (q : Nat) (cs : Array Value) (hq : W.heap.size ≤ q) (hg : g ≠ q) : TS W p A n cap K g c m al (X.setRow q cs) :=
  ⟨ownsRow_far h.own (lone_setRow q X cs) (fun k e => by have : k = g := (Option.some.inj e).symm; omega), h.src.grown (B := W.heap.size) (grown_setRow q X cs) (fun j e => by have : j = q := (Option.some.inj e).symm; omega) hp hA, grown_lone (B := W.heap.size) h.lone (grown_setRow q X cs) (fun j e => by have : j = q := (Option.some.inj e).symm; omega) (Nat.le_refl _)⟩
end
theorem AB.below {q : Nat} {a : Ta} {W W' : World} (h : AB q a W) (hb : Below W.heap.size W W') : AB q a W' := ⟨(hb.block q (Array.getElem?_eq_some_iff.1 h.row).1).trans h.row⟩
theorem acts45 (p : Nat) (A : Option Addr) (n cap : Nat) (W : World) (h : Sr p A n cap 0 W) (hn : n ≤ maxLen) :
    Calls Try.prog 45 #[.pointer (some ⟨p, 0, none⟩)] W fun e w' => ∃ v al, e = .returned v ∧ actsV w' v al ∧ al.length ≤ 60 ∧ (∀ a ∈ al, a.t.size ≤ 10) ∧ Lone p W w' := by
  have HPP := hide h.lt
  have HAA : Hid (∀ b off, A = some ⟨b, off, none⟩ → 0 < n → b < W.heap.size) := hide (fun b off e hn => by
    obtain ⟨b', off', e', _, hc⟩ := h.code hn
    obtain ⟨c, _, _, h2⟩ := hc 0 hn
    have : b = b' := by rw [e'] at e; exact (congrArg Addr.block (Option.some.inj e)).symm
    rw [this]; exact cell_in h2)
  have HNN := hide hn
  have B1 : Below W.heap.size W (W.alloc (.cells #[] 35)) := bl_al (Below.refl _ _)
  have T0 : Hid (TS W p A n cap 0 W.heap.size 0 0 [] (W.alloc (.cells #[] 35))) := hide ⟨World.ownsRow_made W #[] 0 (Nat.le_refl _) (Nat.zero_le _) rfl, h.below B1, Lone.of_below B1⟩
  have K1 := hide (fun X (hX : Sr p A n cap 0 X) => size72 p A n cap 0 X hX hn)
  clear h hn B1
  go_enter Try.func45, Try.ntmps45
  go_wp2_with fail
  generalize W.alloc (.cells #[] 35) = wz at *
  refine (unhide K1 wz (unhide T0).src).mono ?_
  rintro e wy ⟨c0, rfl, h1, h2, hw⟩
  have hw2 := hw.symm
  subst hw2
  clear hw K1
  obtain ⟨N0, hN0⟩ : ∃ N0 : Int, c0 + 6 = N0 := ⟨_, rfl⟩
  have n1 : 7 ≤ N0 := by omega
  have n2 : N0 ≤ 56 := by omega
  go_wp2_with fail

  refine (next_o N0 p A n cap 0 _ (unhide T0).src (by omega) (by omega) (unhide HNN) (by omega)).mono ?_
  rintro e wx ⟨i0, rfl, i1, i2, s1, l1, z1⟩
  have T1 := hide ((unhide T0).step (unhide HPP) s1 l1)
  obtain ⟨j0, rfl⟩ := Int.eq_ofNat_of_zero_le i1
  have HJ0 := hide (show j0 ≤ 55 by omega)
  clear s1 l1 z1 T0 i1 i2 hN0 n1 n2 h1 h2
  go_wp2
  go_loopw [3, 4] (fun o i wr => ∃ (j g c : Nat) (al : List Ta), i = .int .i64 j ∧ o = .slice (some ⟨g, 0, none⟩) al.length c ∧ TS W p A n cap (10 + 10 * al.length) g c al.length al wr ∧ al.length + j ≤ 60 ∧ ∀ a ∈ al, a.t.size ≤ 10) (fun _ i _ => (intOf i).toNat)
  case atStart => exact ⟨j0, W.heap.size, 0, [], rfl, rfl, ⟨(unhide T1).own, (unhide T1).src.more (by omega), (unhide T1).lone⟩, by have := unhide HJ0; simp; omega, fun a h => by cases h⟩
  case round =>
    obtain ⟨j, g, c, al, rfl, rfl, hts, hjl, hal⟩ := hrel
    have HAL := hide hal
    have HG := hide (hts.own.lt g rfl).2
    have LW := hide hts.lone
    obtain ⟨m, hm⟩ : ∃ m, m = al.length := ⟨_, rfl⟩
    rw [← hm] at hts hjl ⊢
    have HM2 := hide hm
    have TSX := hide hts
    have m0 : (0 : Int) ≤ (m : Int) := by omega
    have m1 : (m : Int) ≤ 60 := by omega
    clear hts hal hm T1
    cases j with
    | zero =>
      have hz : (((0 : Nat) : Nat) : Int) = 0 := rfl
      simp only [Int.natCast_zero] at *
      go_wp2
      go_ret
      exact ⟨_, al, rfl, acts_row (unhide HM2) (unhide TSX).own, by have := unhide HM2; omega, unhide HAL, (unhide TSX).lone⟩
    | succ j =>
      have q0 : (0 : Int) < ((j + 1 : Nat) : Int) := by omega
      have q1 : ((j + 1 : Nat) : Int) ≤ 60 := by omega
      have m2 : (m : Int) < 100 := by omega
      have HJ := hide (show m + (j + 1) ≤ 60 from hjl)
      have HM := hide (show m ≤ 60 by omega)
      have HK := hide (show 10 + 10 * m ≤ 700 by omega)
      have ZZ : Hid (wr.heap.size = wr.heap.size) := hide rfl
      have hj1 : ((j + 1 : Nat) : Int) - 1 = (j : Int) := by omega
      clear hjl
      go_wp2_with fail
      refine (chance73 3 p A n cap _ wr (unhide TSX).src (by omega) (by omega) (unhide HNN) (by have := unhide HK; omega)).mono ?_
      rintro e wa ⟨b1, rfl, s1, l1, z1⟩
      have TSX := hide ((unhide TSX).step (unhide HPP) s1 l1)
      have ZZ := hide (show wa.heap.size = wr.heap.size by have := unhide ZZ; omega)
      clear s1 l1 z1
      go_wp2_with fail
      refine (chance73 3 p A n cap _ wa (unhide TSX).src (by omega) (by omega) (unhide HNN) (by have := unhide HK; omega)).mono ?_
      rintro e wb ⟨b2, rfl, s1, l1, z1⟩
      have TSX := hide ((unhide TSX).step (unhide HPP) s1 l1)
      have ZZ := hide (show wb.heap.size = wr.heap.size by have := unhide ZZ; omega)
      clear s1 l1 z1
      have BA : Below wb.heap.size wb (wb.alloc (.cells #[.int .i64 2, .int .i64 0, .string ⟨#[]⟩, .bool b1, .bool b2] 35)) := bl_al (Below.refl _ _)
      have TSX := hide ((unhide TSX).below BA)
      have ABX : Hid (AB wb.heap.size ⟨2, 0, ⟨#[]⟩, b1, b2⟩ (wb.alloc (.cells #[.int .i64 2, .int .i64 0, .string ⟨#[]⟩, .bool b1, .bool b2] 35))) := hide ⟨heap_alloc_new wb _⟩
      have HQ : Hid (W.heap.size ≤ wb.heap.size ∧ g ≠ wb.heap.size) := hide ⟨by have := unhide ZZ; have := (unhide LW).size; omega, by have := unhide ZZ; have := unhide HG; omega⟩
      clear BA
      go_wp2_with fail
      generalize wb.alloc (.cells #[.int .i64 2, .int .i64 0, .string ⟨#[]⟩, .bool b1, .bool b2] 35) = wc at *
      generalize wb.heap.size = q at *
      refine (chance73 2 p A n cap _ wc (unhide TSX).src (by omega) (by omega) (unhide HNN) (by have := unhide HK; omega)).mono ?_
      rintro e w2 ⟨b3, rfl, s1, l1, z1⟩
      have TSX := hide ((unhide TSX).step (unhide HPP) s1 l1)
      have ABX := hide ((unhide ABX).lone l1 (by have := unhide HPP; have := unhide HQ; omega))
      clear s1 l1 z1
      cases b3
      · go_wp2_with fail
        refine (chance73 30 p A n cap _ w2 (unhide TSX).src (by omega) (by omega) (unhide HNN) (by have := unhide HK; omega)).mono ?_
        rintro e wd ⟨b4, rfl, s1, l1, z1⟩
        have TSX := hide ((unhide TSX).step (unhide HPP) s1 l1)
        have ABX := hide ((unhide ABX).lone l1 (by have := unhide HPP; have := unhide HQ; omega))
        clear s1 l1 z1
        cases b4
        · have HA5 : Hid (∀ b ∈ al ++ [(⟨2, 0, ⟨#[]⟩, b1, b2⟩ : Ta)], b.t.size ≤ 10) := hide (fun b hb => by
            rcases List.mem_append.1 hb with h | h
            · exact unhide HAL b h
            · have := List.mem_singleton.1 h
              subst this
              show (⟨#[]⟩ : ByteArray).size ≤ 10; decide)
          have r0 := (unhide ABX).row
          have x0 : wd.cell? ⟨q, 0, none⟩ = some (.int .i64 2) := row_cell r0
          have x1 : wd.cell? ⟨q, 1, none⟩ = some (.int .i64 (0)) := row_cell r0
          have x2 : wd.cell? ⟨q, 2, none⟩ = some (.string (⟨#[]⟩)) := row_cell r0
          have x3 : wd.cell? ⟨q, 3, none⟩ = some (.bool b1) := row_cell r0
          have x4 : wd.cell? ⟨q, 4, none⟩ = some (.bool b2) := row_cell r0
          clear r0
          go_wp2_with (first
                    | (at_builtin; refine wpList_pushA wd rfl _ _ rfl W.heap.size m g c al rfl (unhide TSX).own wd.heap.size rfl (⟨2, 0, ⟨#[]⟩, b1, b2⟩ : Ta) rfl (by have := unhide HM; omega) (unhide TSX).lone.size ?_
                       intro g2 c2 w99 gr bg hown2
                       have T2 : Hid (TS W p A n cap (10 + 10 * (m + 1)) g2 c2 (m + 1) (al ++ [⟨2, 0, ⟨#[]⟩, b1, b2⟩]) w99) := hide ⟨hown2, ((((unhide TSX).below (bl_al (Below.refl _ _))).src.grown (B := W.heap.size) gr (fun j e => by have : j = g := (Option.some.inj e).symm; omega) (unhide HPP) (unhide HAA)).more (by have := unhide HK; omega)), grown_lone (B := W.heap.size) ((unhide TSX).below (bl_al (Below.refl _ _))).lone gr (fun j e => by have : j = g := (Option.some.inj e).symm; omega) (Nat.le_refl _)⟩
                       clear gr bg hown2 x0 x1 x2 x3 x4))
          go_roundw
          case rel => exact ⟨j, g2, c2, al ++ [⟨2, 0, ⟨#[]⟩, b1, b2⟩], by go_num, by simp only [List.length_append, List.length_singleton]; rw [← unhide HM2], by simp only [List.length_append, List.length_singleton]; rw [← unhide HM2]; exact unhide T2, by simp only [List.length_append, List.length_singleton]; have := unhide HJ; have := unhide HM2; omega, unhide HA5⟩
          case measure => first | (simp [intOf]; done) | (simp [intOf]; omega)
        · go_wp2_with fail
          refine (next_o 2 p A n cap _ wd (unhide TSX).src (by omega) (by omega) (unhide HNN) (by have := unhide HK; omega)).mono ?_
          rintro e we ⟨c4, rfl, _, _, s1, l1, _⟩
          have TSX := hide ((unhide TSX).step (unhide HPP) s1 l1)
          have ABX := hide ((unhide ABX).lone l1 (by have := unhide HPP; have := unhide HQ; omega))
          clear s1 l1
          have HA5 : Hid (∀ b ∈ al ++ [(⟨3, c4, ⟨#[]⟩, false, false⟩ : Ta)], b.t.size ≤ 10) := hide (fun b hb => by
            rcases List.mem_append.1 hb with h | h
            · exact unhide HAL b h
            · have := List.mem_singleton.1 h
              subst this
              show (⟨#[]⟩ : ByteArray).size ≤ 10; decide)
          go_wp2_with (first
                    | (with_reducible change wpList _ _ _ ({ dst := none, op := Op.store 35 _ _, type := _, pos := _, after := _, guard := _ } :: _) _ _; refine wpList_store_row rfl 35 _ _ rfl q #[.int .i64 3, .int .i64 c4, .string ⟨#[]⟩, .bool false, .bool false] rfl rfl 35 #[.int .i64 2, .int .i64 0, .string ⟨#[]⟩, .bool b1, .bool b2] (unhide ABX).row (by kernel_rfl) rfl (by kernel_rfl) ?_
                       have TSY := hide ((unhide TSX).put (unhide HPP) (unhide HAA) q #[.int .i64 3, .int .i64 c4, .string ⟨#[]⟩, .bool false, .bool false] (unhide HQ).1 (unhide HQ).2)
                       have ABY : Hid (AB q ⟨3, c4, ⟨#[]⟩, false, false⟩ (we.setRow q #[.int .i64 3, .int .i64 c4, .string ⟨#[]⟩, .bool false, .bool false])) := hide ⟨get_setRow (unhide ABX).row⟩
                       generalize we.setRow q #[.int .i64 3, .int .i64 c4, .string ⟨#[]⟩, .bool false, .bool false] = wf at *
                       clear TSX ABX
                       have TSX := TSY
                       have ABX := ABY
                       clear TSY ABY
                       have r0 := (unhide ABX).row
                       have x0 : wf.cell? ⟨q, 0, none⟩ = some (.int .i64 3) := row_cell r0
                       have x1 : wf.cell? ⟨q, 1, none⟩ = some (.int .i64 (c4)) := row_cell r0
                       have x2 : wf.cell? ⟨q, 2, none⟩ = some (.string (⟨#[]⟩)) := row_cell r0
                       have x3 : wf.cell? ⟨q, 3, none⟩ = some (.bool false) := row_cell r0
                       have x4 : wf.cell? ⟨q, 4, none⟩ = some (.bool false) := row_cell r0
                       clear r0)
                    | (at_builtin; refine wpList_pushA wf rfl _ _ rfl W.heap.size m g c al rfl (unhide TSX).own wf.heap.size rfl (⟨3, c4, ⟨#[]⟩, false, false⟩ : Ta) rfl (by have := unhide HM; omega) (unhide TSX).lone.size ?_
                       intro g2 c2 w99 gr bg hown2
                       have T2 : Hid (TS W p A n cap (10 + 10 * (m + 1)) g2 c2 (m + 1) (al ++ [⟨3, c4, ⟨#[]⟩, false, false⟩]) w99) := hide ⟨hown2, ((((unhide TSX).below (bl_al (Below.refl _ _))).src.grown (B := W.heap.size) gr (fun j e => by have : j = g := (Option.some.inj e).symm; omega) (unhide HPP) (unhide HAA)).more (by have := unhide HK; omega)), grown_lone (B := W.heap.size) ((unhide TSX).below (bl_al (Below.refl _ _))).lone gr (fun j e => by have : j = g := (Option.some.inj e).symm; omega) (Nat.le_refl _)⟩
                       clear gr bg hown2 x0 x1 x2 x3 x4))
          go_roundw
          case rel => exact ⟨j, g2, c2, al ++ [⟨3, c4, ⟨#[]⟩, false, false⟩], by go_num, by simp only [List.length_append, List.length_singleton]; rw [← unhide HM2], by simp only [List.length_append, List.length_singleton]; rw [← unhide HM2]; exact unhide T2, by simp only [List.length_append, List.length_singleton]; have := unhide HJ; have := unhide HM2; omega, unhide HA5⟩
          case measure => first | (simp [intOf]; done) | (simp [intOf]; omega)
      · go_wp2_with fail
        refine (next_o 2 p A n cap _ w2 (unhide TSX).src (by omega) (by omega) (unhide HNN) (by have := unhide HK; omega)).mono ?_
        rintro e w3 ⟨c1, rfl, _, _, s1, l1, _⟩
        have TSX := hide ((unhide TSX).step (unhide HPP) s1 l1)
        have ABX := hide ((unhide ABX).lone l1 (by have := unhide HPP; have := unhide HQ; omega))
        clear s1 l1
        go_wp2_with fail
        refine (say74 p A n cap _ w3 (unhide TSX).src (unhide HNN) (by have := unhide HK; omega)).mono ?_
        rintro e w4 ⟨t1, ht1, rfl, s1, l1⟩
        have TSX := hide ((unhide TSX).step (unhide HPP) s1 l1)
        have ABX := hide ((unhide ABX).lone l1 (by have := unhide HPP; have := unhide HQ; omega))
        have HT1 := hide ht1
        clear s1 l1 ht1
        go_wp2_with fail
        refine (digits75 (j + 1) (by have := unhide HJ; omega) w4).mono ?_
        rintro e w5 ⟨t2, ht2, rfl, b5⟩
        have TSX := hide ((unhide TSX).below b5)
        have ABX := hide ((unhide ABX).below b5)
        have HT2 := hide ht2
        have hs1 : t1.size ≤ 8 := unhide HT1
        have hs2 : t2.size ≤ 2 := ht2
        clear b5 ht2
        have TSY := hide ((unhide TSX).put (unhide HPP) (unhide HAA) q #[.int .i64 1, .int .i64 c1, .string (t1 ++ t2), .bool false, .bool false] (unhide HQ).1 (unhide HQ).2)
        have ABY : Hid (AB q ⟨1, c1, (t1 ++ t2), false, false⟩ (w5.setRow q #[.int .i64 1, .int .i64 c1, .string (t1 ++ t2), .bool false, .bool false])) := hide ⟨get_setRow (unhide ABX).row⟩
        go_wp2_with (with_reducible change wpList _ _ _ ({ dst := none, op := Op.store 35 _ _, type := _, pos := _, after := _, guard := _ } :: _) _ _; refine wpList_store_row rfl 35 _ _ rfl q #[.int .i64 1, .int .i64 c1, .string (t1 ++ t2), .bool false, .bool false] rfl rfl 35 #[.int .i64 2, .int .i64 0, .string ⟨#[]⟩, .bool b1, .bool b2] (unhide ABX).row (by kernel_rfl) rfl (by kernel_rfl) ?_; generalize w5.setRow q #[.int .i64 1, .int .i64 c1, .string (t1 ++ t2), .bool false, .bool false] = w6 at *)
        clear TSX ABX
        have TSX := TSY
        have ABX := ABY
        clear TSY ABY
        refine (chance73 30 p A n cap _ w6 (unhide TSX).src (by omega) (by omega) (unhide HNN) (by have := unhide HK; omega)).mono ?_
        rintro e wd ⟨b4, rfl, s1, l1, z1⟩
        have TSX := hide ((unhide TSX).step (unhide HPP) s1 l1)
        have ABX := hide ((unhide ABX).lone l1 (by have := unhide HPP; have := unhide HQ; omega))
        clear s1 l1 z1
        cases b4
        · have HA5 : Hid (∀ b ∈ al ++ [(⟨1, c1, (t1 ++ t2), false, false⟩ : Ta)], b.t.size ≤ 10) := hide (fun b hb => by
            rcases List.mem_append.1 hb with h | h
            · exact unhide HAL b h
            · have := List.mem_singleton.1 h
              subst this
              show (t1 ++ t2).size ≤ 10; rw [ByteArray.size_append]; have := unhide HT1; have := unhide HT2; omega)
          have r0 := (unhide ABX).row
          have x0 : wd.cell? ⟨q, 0, none⟩ = some (.int .i64 1) := row_cell r0
          have x1 : wd.cell? ⟨q, 1, none⟩ = some (.int .i64 (c1)) := row_cell r0
          have x2 : wd.cell? ⟨q, 2, none⟩ = some (.string ((t1 ++ t2))) := row_cell r0
          have x3 : wd.cell? ⟨q, 3, none⟩ = some (.bool false) := row_cell r0
          have x4 : wd.cell? ⟨q, 4, none⟩ = some (.bool false) := row_cell r0
          clear r0
          go_wp2_with (first
                    | (at_builtin; refine wpList_pushA wd rfl _ _ rfl W.heap.size m g c al rfl (unhide TSX).own wd.heap.size rfl (⟨1, c1, (t1 ++ t2), false, false⟩ : Ta) rfl (by have := unhide HM; omega) (unhide TSX).lone.size ?_
                       intro g2 c2 w99 gr bg hown2
                       have T2 : Hid (TS W p A n cap (10 + 10 * (m + 1)) g2 c2 (m + 1) (al ++ [⟨1, c1, (t1 ++ t2), false, false⟩]) w99) := hide ⟨hown2, ((((unhide TSX).below (bl_al (Below.refl _ _))).src.grown (B := W.heap.size) gr (fun j e => by have : j = g := (Option.some.inj e).symm; omega) (unhide HPP) (unhide HAA)).more (by have := unhide HK; omega)), grown_lone (B := W.heap.size) ((unhide TSX).below (bl_al (Below.refl _ _))).lone gr (fun j e => by have : j = g := (Option.some.inj e).symm; omega) (Nat.le_refl _)⟩
                       clear gr bg hown2 x0 x1 x2 x3 x4))
          go_roundw
          case rel => exact ⟨j, g2, c2, al ++ [⟨1, c1, (t1 ++ t2), false, false⟩], by go_num, by simp only [List.length_append, List.length_singleton]; rw [← unhide HM2], by simp only [List.length_append, List.length_singleton]; rw [← unhide HM2]; exact unhide T2, by simp only [List.length_append, List.length_singleton]; have := unhide HJ; have := unhide HM2; omega, unhide HA5⟩
          case measure => first | (simp [intOf]; done) | (simp [intOf]; omega)
        · go_wp2_with fail
          refine (next_o 2 p A n cap _ wd (unhide TSX).src (by omega) (by omega) (unhide HNN) (by have := unhide HK; omega)).mono ?_
          rintro e we ⟨c4, rfl, _, _, s1, l1, _⟩
          have TSX := hide ((unhide TSX).step (unhide HPP) s1 l1)
          have ABX := hide ((unhide ABX).lone l1 (by have := unhide HPP; have := unhide HQ; omega))
          clear s1 l1
          have HA5 : Hid (∀ b ∈ al ++ [(⟨3, c4, ⟨#[]⟩, false, false⟩ : Ta)], b.t.size ≤ 10) := hide (fun b hb => by
            rcases List.mem_append.1 hb with h | h
            · exact unhide HAL b h
            · have := List.mem_singleton.1 h
              subst this
              show (⟨#[]⟩ : ByteArray).size ≤ 10; decide)
          go_wp2_with (first
                    | (with_reducible change wpList _ _ _ ({ dst := none, op := Op.store 35 _ _, type := _, pos := _, after := _, guard := _ } :: _) _ _; refine wpList_store_row rfl 35 _ _ rfl q #[.int .i64 3, .int .i64 c4, .string ⟨#[]⟩, .bool false, .bool false] rfl rfl 35 #[.int .i64 1, .int .i64 c1, .string (t1 ++ t2), .bool false, .bool false] (unhide ABX).row (by kernel_rfl) rfl (by kernel_rfl) ?_
                       have TSY := hide ((unhide TSX).put (unhide HPP) (unhide HAA) q #[.int .i64 3, .int .i64 c4, .string ⟨#[]⟩, .bool false, .bool false] (unhide HQ).1 (unhide HQ).2)
                       have ABY : Hid (AB q ⟨3, c4, ⟨#[]⟩, false, false⟩ (we.setRow q #[.int .i64 3, .int .i64 c4, .string ⟨#[]⟩, .bool false, .bool false])) := hide ⟨get_setRow (unhide ABX).row⟩
                       generalize we.setRow q #[.int .i64 3, .int .i64 c4, .string ⟨#[]⟩, .bool false, .bool false] = wf at *
                       clear TSX ABX
                       have TSX := TSY
                       have ABX := ABY
                       clear TSY ABY
                       have r0 := (unhide ABX).row
                       have x0 : wf.cell? ⟨q, 0, none⟩ = some (.int .i64 3) := row_cell r0
                       have x1 : wf.cell? ⟨q, 1, none⟩ = some (.int .i64 (c4)) := row_cell r0
                       have x2 : wf.cell? ⟨q, 2, none⟩ = some (.string (⟨#[]⟩)) := row_cell r0
                       have x3 : wf.cell? ⟨q, 3, none⟩ = some (.bool false) := row_cell r0
                       have x4 : wf.cell? ⟨q, 4, none⟩ = some (.bool false) := row_cell r0
                       clear r0)
                    | (at_builtin; refine wpList_pushA wf rfl _ _ rfl W.heap.size m g c al rfl (unhide TSX).own wf.heap.size rfl (⟨3, c4, ⟨#[]⟩, false, false⟩ : Ta) rfl (by have := unhide HM; omega) (unhide TSX).lone.size ?_
                       intro g2 c2 w99 gr bg hown2
                       have T2 : Hid (TS W p A n cap (10 + 10 * (m + 1)) g2 c2 (m + 1) (al ++ [⟨3, c4, ⟨#[]⟩, false, false⟩]) w99) := hide ⟨hown2, ((((unhide TSX).below (bl_al (Below.refl _ _))).src.grown (B := W.heap.size) gr (fun j e => by have : j = g := (Option.some.inj e).symm; omega) (unhide HPP) (unhide HAA)).more (by have := unhide HK; omega)), grown_lone (B := W.heap.size) ((unhide TSX).below (bl_al (Below.refl _ _))).lone gr (fun j e => by have : j = g := (Option.some.inj e).symm; omega) (Nat.le_refl _)⟩
                       clear gr bg hown2 x0 x1 x2 x3 x4))
          go_roundw
          case rel => exact ⟨j, g2, c2, al ++ [⟨3, c4, ⟨#[]⟩, false, false⟩], by go_num, by simp only [List.length_append, List.length_singleton]; rw [← unhide HM2], by simp only [List.length_append, List.length_singleton]; rw [← unhide HM2]; exact unhide T2, by simp only [List.length_append, List.length_singleton]; have := unhide HJ; have := unhide HM2; omega, unhide HA5⟩
          case measure => first | (simp [intOf]; done) | (simp [intOf]; omega)
end Go.Proofs.Ythonnlifgdnacaa
