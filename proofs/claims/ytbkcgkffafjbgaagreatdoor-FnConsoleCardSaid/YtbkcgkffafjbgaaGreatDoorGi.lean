/- A line read by the program: what is no act is recovered where the line is read. -/
import Derived.Test.YtbkcgkffafjbgaaGreatDoorGh
import Derived.Maps.OwnSet
import Derived.Maps.Views
import Derived.StringKeys
import Derived.Defers
import Derived.Recover
/- A round that is read off a line, and any act; the program's side. -/
namespace Go.Proofs.YtbkcgkffafjbgaaGreatDoor
open Go.RowKit
set_option maxHeartbeats 4000000
set_option maxRecDepth 20000
theorem Lone.set {q b i : Nat} {w W : World} {v : Value} (h : Lone q w W) (hb : w.heap.size ≤ b) : Lone q w (W.setCell ⟨b, i, none⟩ v) :=
  ⟨h.os, h.tape, h.output, by rw [size_set]; exact h.size, fun k hk hq => by
    rw [← h.block k hk hq]; exact (lone_setCell b i W v).block k (Nat.lt_of_lt_of_le hk h.size) (by omega)⟩
theorem Pg.set {q b c i : Nat} {w W : World} {v : Value} (h : Pg q b w W) (hc : w.heap.size ≤ c) (hb : c ≠ b) : Pg q b w (W.setCell ⟨c, i, none⟩ v) :=
  ⟨h.lone.set hc, row_set_other h.row hb, h.ne, h.ge⟩
theorem U.setO {q c i : Nat} {W : World} {v : Value} {l : By} (h : U q l W) (hb : c ≠ q) : U q l (W.setCell ⟨c, i, none⟩ v) := row_set_other h hb
theorem round16 (q : Nat) (l : By) (w : World) (hu : U q l w) (hn : Nm w) (hq : 1 < q) (hl : l.length ≤ 65536) :
    Calls Tryz.prog 45 #[.pointer (some ⟨q, 0, none⟩)] w (endA (roundR l) q w) := by
  have HP := hide ((Pg.start hu.lt).alloc (.cells #[.int .i64 2, .int .i64 0, .string ⟨#[]⟩, .bool false, .bool false] 27))
  have HN := hide ((hn.step (.cells zA 27)).step (.cells #[.int .i64 2, .int .i64 0, .string ⟨#[]⟩, .bool false, .bool false] 27))
  have HU := hide ((hu.step (.cells zA 27)).step (.cells #[.int .i64 2, .int .i64 0, .string ⟨#[]⟩, .bool false, .bool false] 27))
  have CB : Hid (((w.alloc (.cells zA 27)).alloc (.cells #[.int .i64 2, .int .i64 0, .string ⟨#[]⟩, .bool false, .bool false] 27)).heap[w.heap.size + 1]? = some (.cells #[.int .i64 2, .int .i64 0, .string ⟨#[]⟩, .bool false, .bool false] 27 (0, 0))) := hide (heap_at _ _ _ (by simp))
  have HQ : Hid (w.heap.size + 1 ≠ q) := hide (by have := hu.lt; omega)
  have hl2 := Nat.le_trans (lf_len l) hl
  have hl3 := Nat.le_trans (lf_len (lf l)) hl2
  have K1 := hide (fun W h => word18 q l W h hl)
  have K2 := hide (fun W h1 h2 => lost23 q (lf l) W h1 h2 hq hl2)
  have K3 := hide (fun W h => end24 q (lf (lf l)) W h hl3)
  have hx := bs_toList (wd l)
  clear hu hn hl
  by_cases h0 : wd l = []
  · rw [show roundR l = some ⟨2, 0, [], false, false⟩ by unfold roundR; rw [if_pos h0]]
    have he : (bs (wd l)).toList.isEmpty = true := by rw [hx, h0]; rfl
    generalize bs (wd l) = t at *
    clear hx h0 K2 K3
    go_enter Tryz.func45, Tryz.ntmps45
    go_wp2_with (first | (go_at_call 47; refine (unhide K1 _ (unhide HU)).mono ?_; rintro e w1 ⟨rfl, hu1, hl1⟩; have HP1 := hide ((unhide HP).step hl1); have HU1 := hide hu1; have HN1 := hide ((unhide HN).lone hl1 hq); have C1 := hide (row_lone (unhide CB) hl1 (unhide HQ)); clear hu1 hl1 K1) | (with_reducible change wpList _ _ _ ({ dst := some 21, op := Op.load 27 _, type := _, pos := _, after := _, guard := _ } :: _) _ _; refine wpList_load_row rfl 27 _ rfl (w.heap.size + 1) rfl 27 _ _ _ (unhide C1) Tryz.underlying27 rfl (by kernel_rfl) ?_) | (with_reducible change wpList _ _ _ ({ dst := none, op := Op.store 27 (Operand.tmp 2) _, type := _, pos := _, after := _, guard := _ } :: _) _ _; refine wpList_store_row rfl 27 _ _ rfl w.heap.size #[.int .i64 2, .int .i64 0, .string ⟨#[]⟩, .bool false, .bool false] rfl rfl 27 zA (unhide HP1).row (by kernel_rfl) rfl (by kernel_rfl) ?_))
    refine bodyPost_ret (v := atV ⟨2, 0, [], false, false⟩) ?_ rfl ?_
    · exact results_cell_row rfl _ _ w.heap.size 27 _ (0, 0) _ rfl ((unhide HP1).got _) Tryz.underlying27 rfl (by kernel_rfl)
    exact ⟨rfl, (unhide HP1).done _⟩

  have he0 : (bs (wd l)).toList.isEmpty = false := by rw [hx]; generalize wd l = y at *; cases y; exact absurd rfl h0; rfl
  by_cases h1 : wd l = [108, 111, 115, 101]
  · have he1 : ((bs (wd l)).toList == [108, 111, 115, 101]) = true := by rw [hx, h1]; rfl
    have hR : roundR l = (lostF (wd (lf l))).bind fun p => if tr (lf (lf l)) = [] then some ⟨2, 0, [], p.1, p.2⟩ else none := by unfold roundR; rw [if_neg h0, if_pos h1]
    generalize bs (wd l) = t at *
    clear hx h0 h1
    cases hlo : lostF (wd (lf l)) with
    | none =>
      rw [show roundR l = none by rw [hR, hlo]; rfl]
      rw [hlo] at K2
      clear hR hlo
      go_enter Tryz.func45, Tryz.ntmps45
      go_wp2_with (first | (go_at_call 47; refine (unhide K1 _ (unhide HU)).mono ?_; rintro e w1 ⟨rfl, hu1, hl1⟩; have HP1 := hide ((unhide HP).step hl1); have HU1 := hide hu1; have HN1 := hide ((unhide HN).lone hl1 hq); have C1 := hide (row_lone (unhide CB) hl1 (unhide HQ)); clear hu1 hl1 K1) | (go_at_call 67; refine (unhide K2 _ (unhide HU1) (unhide HN1)).mono ?_; rintro e w2 ⟨rfl, hl2⟩))
      exact ⟨rfl, rfl, ((unhide HP1).step hl2).lone⟩
    | some p =>
      obtain ⟨p1, p2⟩ := p
      rw [hlo] at K2
      by_cases ht : tr (lf (lf l)) = []
      · rw [show roundR l = some ⟨2, 0, [], p1, p2⟩ by rw [hR, hlo]; simp only [Option.bind]; rw [if_pos ht]]
        rw [if_pos ht] at K3
        clear hR hlo ht
        go_enter Tryz.func45, Tryz.ntmps45
        go_wp2_with (first | (go_at_call 47; refine (unhide K1 _ (unhide HU)).mono ?_; rintro e w1 ⟨rfl, hu1, hl1⟩; have HP1 := hide ((unhide HP).step hl1); have HU1 := hide hu1; have HN1 := hide ((unhide HN).lone hl1 hq); have C1 := hide (row_lone (unhide CB) hl1 (unhide HQ)); clear hu1 hl1 K1) | (go_at_call 67; refine (unhide K2 _ (unhide HU1) (unhide HN1)).mono ?_; rintro e w2 ⟨rfl, hu2, hl2⟩; have C2 := row_lone (unhide C1) hl2 (unhide HQ); have D2 := row_set (i := 3) (v := .bool p1) C2; have D3 := row_set (i := 4) (v := .bool p2) D2; have c3 := row_cell (i := 3) C2; have f3 := row_free (i := 3) C2; have c4 := row_cell (i := 4) D2; have f4 := row_free (i := 4) D2; have HP2 := hide ((((unhide HP1).step hl2).set (c := w.heap.size + 1) (i := 3) (v := .bool p1) (by omega) (by omega)).set (c := w.heap.size + 1) (i := 4) (v := .bool p2) (by omega) (by omega)); have HU2 := hide ((hu2.setO (i := 3) (v := .bool p1) (unhide HQ)).setO (i := 4) (v := .bool p2) (unhide HQ)); have C3 := hide D3; clear D2 D3 C2 hl2 hu2 K2; simp at c3 c4) | (go_at_call 68; refine (unhide K3 _ (unhide HU2)).mono ?_; rintro e w3 ⟨rfl, _, hl3⟩; have HP3 := hide ((unhide HP2).step hl3); have C4 : Hid (w3.heap[w.heap.size + 1]? = some (.cells #[.int .i64 2, .int .i64 0, .string ⟨#[]⟩, .bool p1, .bool p2] 27 (0, 0))) := hide (row_lone (unhide C3) hl3 (unhide HQ)); clear hl3 K3 c3 c4 f3 f4) | (with_reducible change wpList _ _ _ ({ dst := some 21, op := Op.load 27 _, type := _, pos := _, after := _, guard := _ } :: _) _ _; refine wpList_load_row rfl 27 _ rfl (w.heap.size + 1) rfl 27 _ _ _ (unhide C4) Tryz.underlying27 rfl (by kernel_rfl) ?_) | (with_reducible change wpList _ _ _ ({ dst := none, op := Op.store 27 (Operand.tmp 2) _, type := _, pos := _, after := _, guard := _ } :: _) _ _; refine wpList_store_row rfl 27 _ _ rfl w.heap.size #[.int .i64 2, .int .i64 0, .string ⟨#[]⟩, .bool p1, .bool p2] rfl rfl 27 zA (unhide HP3).row (by kernel_rfl) rfl (by kernel_rfl) ?_))
        refine bodyPost_ret (v := atV ⟨2, 0, [], p1, p2⟩) ?_ rfl ?_
        · exact results_cell_row rfl _ _ w.heap.size 27 _ (0, 0) _ rfl ((unhide HP3).got _) Tryz.underlying27 rfl (by kernel_rfl)
        exact ⟨rfl, (unhide HP3).done _⟩

      · rw [show roundR l = none by rw [hR, hlo]; simp only [Option.bind]; rw [if_neg ht]]
        rw [if_neg ht] at K3
        clear hR hlo ht
        go_enter Tryz.func45, Tryz.ntmps45
        go_wp2_with (first | (go_at_call 47; refine (unhide K1 _ (unhide HU)).mono ?_; rintro e w1 ⟨rfl, hu1, hl1⟩; have HP1 := hide ((unhide HP).step hl1); have HU1 := hide hu1; have HN1 := hide ((unhide HN).lone hl1 hq); have C1 := hide (row_lone (unhide CB) hl1 (unhide HQ)); clear hu1 hl1 K1) | (go_at_call 67; refine (unhide K2 _ (unhide HU1) (unhide HN1)).mono ?_; rintro e w2 ⟨rfl, hu2, hl2⟩; have C2 := row_lone (unhide C1) hl2 (unhide HQ); have D2 := row_set (i := 3) (v := .bool p1) C2; have D3 := row_set (i := 4) (v := .bool p2) D2; have c3 := row_cell (i := 3) C2; have f3 := row_free (i := 3) C2; have c4 := row_cell (i := 4) D2; have f4 := row_free (i := 4) D2; have HP2 := hide ((((unhide HP1).step hl2).set (c := w.heap.size + 1) (i := 3) (v := .bool p1) (by omega) (by omega)).set (c := w.heap.size + 1) (i := 4) (v := .bool p2) (by omega) (by omega)); have HU2 := hide ((hu2.setO (i := 3) (v := .bool p1) (unhide HQ)).setO (i := 4) (v := .bool p2) (unhide HQ)); have C3 := hide D3; clear D2 D3 C2 hl2 hu2 K2; simp at c3 c4) | (go_at_call 68; refine (unhide K3 _ (unhide HU2)).mono ?_; rintro e w3 ⟨rfl, hl3⟩; have HP3 := hide ((unhide HP2).step hl3)))
        exact ⟨rfl, rfl, (unhide HP3).lone⟩
  · have he1 : ((bs (wd l)).toList == [108, 111, 115, 101]) = false := by rw [hx]; simpa using h1
    rw [show roundR l = none by unfold roundR; rw [if_neg h0, if_neg h1]]
    generalize bs (wd l) = t at *
    clear hx h0 h1 K2 K3
    go_enter Tryz.func45, Tryz.ntmps45
    go_wp2_with (go_at_call 47; refine (unhide K1 _ (unhide HU)).mono ?_; rintro e w1 ⟨rfl, hu1, hl1⟩; have HP1 := hide ((unhide HP).step hl1); have HU1 := hide hu1; have HN1 := hide ((unhide HN).lone hl1 hq); have C1 := hide (row_lone (unhide CB) hl1 (unhide HQ)); clear hu1 hl1 K1)
    exact ⟨rfl, rfl, (unhide HP1).lone⟩
end Go.Proofs.YtbkcgkffafjbgaaGreatDoor
/- Any act, by the map to its methods; the program's side. -/
namespace Go.Proofs.YtbkcgkffafjbgaaGreatDoor
open Go.RowKit Go.Maps Go.WideMaps
set_option maxHeartbeats 4000000
set_option maxRecDepth 20000
theorem law9 : Keyed Tryz.prog 9 := string_keyed Tryz.underlying9
/-- a text as a key -/
def ky (s : ByteArray) : Lit := .string s.data.toList
theorem key9 (s : ByteArray) (h : s.size ≤ maxLen) : keyOf Tryz.prog 9 (.string s) = some (ky s) := keyOf_string_mk Tryz.underlying9 h
/-- how a method in the map is read -/
def fnE (v : Value) : Option (DataW Unit × List MemPlace) :=
  match v with
  | .func (.func n) a b => if a.size = 0 ∧ b.size = 0 then some (.lit (.int .i64 n), []) else none
  | .nilFunc => some (.lit (.int .i64 (-1)), [])
  | _ => none
theorem fnE_mk (n : Nat) : fnE (.func (.func n) #[] #[]) = some (.lit (.int .i64 n), []) := rfl
theorem fnE_inv {v : Value} {n : Nat} {qs : List MemPlace} (h : fnE v = some (.lit (.int .i64 n), qs)) : v = .func (.func n) #[] #[] := by
  unfold fnE at h
  split at h
  · split at h
    · rename_i m a b hab
      obtain ⟨ha, hb⟩ := hab
      have ha := Array.eq_empty_of_size_eq_zero ha
      have hb := Array.eq_empty_of_size_eq_zero hb
      subst ha hb
      simp at h
      obtain ⟨h, _⟩ := h
      have h : m = n := Int.ofNat.inj h
      subst h; rfl
    · cases h
  · simp at h
  · cases h
abbrev sayT : ByteArray := ⟨#[115, 97, 121]⟩
abbrev rndT : ByteArray := ⟨#[114, 111, 117, 110, 100]⟩
abbrev hngT : ByteArray := ⟨#[104, 97, 110, 103]⟩
def D3 : DataW Unit := (((DataW.map []).put (ky sayT) (.lit (.int .i64 ((44 : Nat) : Int)))).put (ky rndT) (.lit (.int .i64 ((45 : Nat) : Int)))).put (ky hngT) (.lit (.int .i64 ((46 : Nat) : Int)))
theorem D3_say : Maps.has D3 (ky sayT) = true ∧ D3.atKey (ky sayT) (.lit (.int .i64 (-1))) = .lit (.int .i64 ((44 : Nat) : Int)) := by constructor <;> rfl
theorem D3_rnd : Maps.has D3 (ky rndT) = true ∧ D3.atKey (ky rndT) (.lit (.int .i64 (-1))) = .lit (.int .i64 ((45 : Nat) : Int)) := by constructor <;> rfl
theorem D3_hng : Maps.has D3 (ky hngT) = true ∧ D3.atKey (ky hngT) (.lit (.int .i64 (-1))) = .lit (.int .i64 ((46 : Nat) : Int)) := by constructor <;> rfl
theorem ky_inj {s t : ByteArray} (h : ky s = ky t) : s = t := by
  injection h with h
  cases s; cases t
  simp at h
  simp [h]
theorem D3_none (s : ByteArray) (h1 : s ≠ sayT) (h2 : s ≠ rndT) (h3 : s ≠ hngT) : Maps.has D3 (ky s) = false := by
  unfold D3
  rw [has_put_other (fun h => h3 (ky_inj h)), has_put_other (fun h => h2 (ky_inj h)), has_put_other (fun h => h1 (ky_inj h))]
  rfl
theorem zero39 (w : World) : (zeroValue 81).run Tryz.prog w = .ok .nilFunc w := by kernel_rfl
/-- the map to the methods, as it is made -/
theorem made (w : World) : ∃ W1 W2 W3 : World,
    (Instr.mapUpdate 82 (.map (some (w.heap.size + 1))) (.string sayT) (.func (.func 44) #[] #[])).run Tryz.prog ((w.alloc (.cells zA 27)).alloc (.map #[] 0)) = .ok () W1 ∧
    (Instr.mapUpdate 82 (.map (some (w.heap.size + 1))) (.string rndT) (.func (.func 45) #[] #[])).run Tryz.prog W1 = .ok () W2 ∧
    (Instr.mapUpdate 82 (.map (some (w.heap.size + 1))) (.string hngT) (.func (.func 46) #[] #[])).run Tryz.prog W2 = .ok () W3 ∧
    Hid (W3.ownsMap Tryz.prog 9 fnE (w.heap.size + 1) 3 D3) ∧ Hid (((w.alloc (.cells zA 27)).alloc (.map #[] 0)).grownBy W3 (some (w.heap.size + 1))) := by
  have e : (w.alloc (.cells zA 27)).heap.size = w.heap.size + 1 := by simp
  have o0 := World.ownsMap_made (w.alloc (.cells zA 27)) Tryz.prog 9 fnE
  rw [e] at o0
  obtain ⟨W1, r1, o1, g1⟩ := o0.update law9 Tryz.underlying82 (by decide) (key9 sayT (by decide)) (fnE_mk 44)
  obtain ⟨W2, r2, o2, g2⟩ := o1.update law9 Tryz.underlying82 (by decide) (key9 rndT (by decide)) (fnE_mk 45)
  obtain ⟨W3, r3, o3, g3⟩ := o2.update law9 Tryz.underlying82 (by decide) (key9 hngT (by decide)) (fnE_mk 46)
  exact ⟨W1, W2, W3, r1, r2, r3, hide o3, hide ((g1.trans g2).trans g3)⟩
theorem lone_grown {q b : Nat} {w W X : World} (h : Lone q w W) (hg : W.grownBy X (some b)) (hb : w.heap.size ≤ b) : Lone q w X := by
  refine ⟨hg.os.trans h.os, hg.tape.trans h.tape, hg.output.trans h.output, Nat.le_trans h.size hg.size, fun k hk hq => (hg.block k (Nat.lt_of_lt_of_le hk h.size) (by intro e; injection e with e; omega)).trans (h.block k hk hq)⟩
theorem own_loneD {q b n : Nat} {W X : World} {D : DataW Unit} (h : W.ownsMap Tryz.prog 9 fnE b n D) (hl : Lone q W X) (hb : b ≠ q) : X.ownsMap Tryz.prog 9 fnE b n D := by
  have hlt := h.lt
  obtain ⟨es, clock, e, r⟩ := h
  exact ⟨es, clock, (hl.block b hlt hb).trans e, r⟩
theorem wd_len (l : By) : (wd l).length ≤ l.length := by
  have h1 := congrArg List.length (wd_rs l)
  have h2 := dropWhile_len bla l
  rw [List.length_append] at h1
  unfold tl at h1
  omega
theorem act14 (q : Nat) (l : By) (w : World) (hu : U q l w) (hn : Nm w) (hq : 1 < q) (hl : l.length ≤ 65536) :
    Calls Tryz.prog 29 #[.pointer (some ⟨q, 0, none⟩)] w (endA (actR l) q w) := by
  have hmm := @run_makeMap Tryz.prog
  obtain ⟨W1, W2, W3, r1, r2, r3, HO, HG⟩ := made w
  have P0 := (Pg.start hu.lt).alloc (.map #[] 0)
  have hlt := hu.lt
  have HP : Hid (Pg q w.heap.size w W3) := hide ⟨lone_grown P0.lone (unhide HG) (by omega), ((unhide HG).block _ (by simp; omega) (by intro e; injection e with e; omega)).trans P0.row, P0.ne, P0.ge⟩
  have HU : Hid (U q l W3) := hide (((unhide HG).block q (by simp; omega) (by intro e; injection e with e; omega)).trans ((hu.step _).step _))
  have HN : Hid (Nm W3) := hide (by obtain ⟨t, fr, e⟩ := (hn.step (.cells zA 27)).step (.map #[] 0); exact ⟨t, fr, ((unhide HG).block 1 (by simp) (by intro e; injection e with e; omega)).trans e⟩)
  have HQ : Hid (w.heap.size + 1 ≠ q) := hide (by omega)
  have K1 := hide (fun W h => word18 q l W h hl)
  have hl2 := Nat.le_trans (lf_len l) hl
  clear P0 hlt HG hu hn
  have hx := bs_toList (wd l)
  by_cases h1 : wd l = [115, 97, 121]
  · rw [show actR l = sayD (lf l) by unfold actR; rw [if_pos h1]]
    have ht : bs (wd l) = sayT := by rw [h1]; rfl
    rw [ht] at K1
    have X1 := D3_say.1
    have X2 := D3_say.2
    have K2 := hide (fun W a b => say15 q (lf l) W a b hq hl2)
    generalize sayD (lf l) = o at *
    clear hx ht
    cases o with
    | none =>
      go_enter Tryz.func29, Tryz.ntmps29
      go_wp2_with (first | (go_at_call 47; refine (unhide K1 _ (unhide HU)).mono ?_; rintro e w1 ⟨rfl, hu1, hl1⟩; have HP1 := hide ((unhide HP).step hl1); have HU1 := hide hu1; have HN1 := hide ((unhide HN).lone hl1 hq); have o1 := own_loneD (unhide HO) hl1 (unhide HQ); obtain ⟨v, ps, hrun, hv⟩ := o1.look_ok law9 Tryz.underlying82 (zero39 _) (show fnE .nilFunc = some (.lit (.int .i64 (-1)), []) from rfl) (key9 sayT (by decide)); rw [X1] at hrun; rw [X2] at hv; obtain rfl := fnE_inv hv; clear hv; clear hu1 hl1 K1 o1) | (go_at_call 44; refine (unhide K2 _ (unhide HU1) (unhide HN1)).mono ?_; rintro e w2 ⟨rfl, hl2⟩; have HP2 := hide ((unhide HP1).step hl2)))
      exact ⟨rfl, rfl, (unhide HP2).lone⟩
    | some a =>
      go_enter Tryz.func29, Tryz.ntmps29
      go_wp2_with (first | (go_at_call 47; refine (unhide K1 _ (unhide HU)).mono ?_; rintro e w1 ⟨rfl, hu1, hl1⟩; have HP1 := hide ((unhide HP).step hl1); have HU1 := hide hu1; have HN1 := hide ((unhide HN).lone hl1 hq); have o1 := own_loneD (unhide HO) hl1 (unhide HQ); obtain ⟨v, ps, hrun, hv⟩ := o1.look_ok law9 Tryz.underlying82 (zero39 _) (show fnE .nilFunc = some (.lit (.int .i64 (-1)), []) from rfl) (key9 sayT (by decide)); rw [X1] at hrun; rw [X2] at hv; obtain rfl := fnE_inv hv; clear hv; clear hu1 hl1 K1 o1) | (go_at_call 44; refine (unhide K2 _ (unhide HU1) (unhide HN1)).mono ?_; rintro e w2 ⟨rfl, hl2⟩; have HP2 := hide ((unhide HP1).step hl2); clear hl2 K2) | (with_reducible change wpList _ _ _ ({ dst := none, op := Op.store 27 (Operand.tmp 2) _, type := _, pos := _, after := _, guard := _ } :: _) _ _; refine wpList_store_row rfl 27 _ _ rfl w.heap.size (atA a) rfl rfl 27 zA (unhide HP2).row (by kernel_rfl) rfl (by kernel_rfl) ?_))
      refine bodyPost_ret (v := atV a) ?_ rfl ?_
      · exact results_cell_row rfl _ _ w.heap.size 27 _ (0, 0) _ rfl ((unhide HP2).got _) Tryz.underlying27 rfl (by kernel_rfl)
      exact ⟨rfl, (unhide HP2).done _⟩
  by_cases h2 : wd l = [114, 111, 117, 110, 100]
  · rw [show actR l = roundR (lf l) by unfold actR; rw [if_neg h1, if_pos h2]]
    have ht : bs (wd l) = rndT := by rw [h2]; rfl
    rw [ht] at K1
    have X1 := D3_rnd.1
    have X2 := D3_rnd.2
    have K2 := hide (fun W a b => round16 q (lf l) W a b hq hl2)
    generalize roundR (lf l) = o at *
    clear hx ht
    cases o with
    | none =>
      go_enter Tryz.func29, Tryz.ntmps29
      go_wp2_with (first | (go_at_call 47; refine (unhide K1 _ (unhide HU)).mono ?_; rintro e w1 ⟨rfl, hu1, hl1⟩; have HP1 := hide ((unhide HP).step hl1); have HU1 := hide hu1; have HN1 := hide ((unhide HN).lone hl1 hq); have o1 := own_loneD (unhide HO) hl1 (unhide HQ); obtain ⟨v, ps, hrun, hv⟩ := o1.look_ok law9 Tryz.underlying82 (zero39 _) (show fnE .nilFunc = some (.lit (.int .i64 (-1)), []) from rfl) (key9 rndT (by decide)); rw [X1] at hrun; rw [X2] at hv; obtain rfl := fnE_inv hv; clear hv; clear hu1 hl1 K1 o1) | (go_at_call 45; refine (unhide K2 _ (unhide HU1) (unhide HN1)).mono ?_; rintro e w2 ⟨rfl, hl2⟩; have HP2 := hide ((unhide HP1).step hl2)))
      exact ⟨rfl, rfl, (unhide HP2).lone⟩
    | some a =>
      go_enter Tryz.func29, Tryz.ntmps29
      go_wp2_with (first | (go_at_call 47; refine (unhide K1 _ (unhide HU)).mono ?_; rintro e w1 ⟨rfl, hu1, hl1⟩; have HP1 := hide ((unhide HP).step hl1); have HU1 := hide hu1; have HN1 := hide ((unhide HN).lone hl1 hq); have o1 := own_loneD (unhide HO) hl1 (unhide HQ); obtain ⟨v, ps, hrun, hv⟩ := o1.look_ok law9 Tryz.underlying82 (zero39 _) (show fnE .nilFunc = some (.lit (.int .i64 (-1)), []) from rfl) (key9 rndT (by decide)); rw [X1] at hrun; rw [X2] at hv; obtain rfl := fnE_inv hv; clear hv; clear hu1 hl1 K1 o1) | (go_at_call 45; refine (unhide K2 _ (unhide HU1) (unhide HN1)).mono ?_; rintro e w2 ⟨rfl, hl2⟩; have HP2 := hide ((unhide HP1).step hl2); clear hl2 K2) | (with_reducible change wpList _ _ _ ({ dst := none, op := Op.store 27 (Operand.tmp 2) _, type := _, pos := _, after := _, guard := _ } :: _) _ _; refine wpList_store_row rfl 27 _ _ rfl w.heap.size (atA a) rfl rfl 27 zA (unhide HP2).row (by kernel_rfl) rfl (by kernel_rfl) ?_))
      refine bodyPost_ret (v := atV a) ?_ rfl ?_
      · exact results_cell_row rfl _ _ w.heap.size 27 _ (0, 0) _ rfl ((unhide HP2).got _) Tryz.underlying27 rfl (by kernel_rfl)
      exact ⟨rfl, (unhide HP2).done _⟩
  by_cases h3 : wd l = [104, 97, 110, 103]
  · rw [show actR l = hangR (lf l) by unfold actR; rw [if_neg h1, if_neg h2, if_pos h3]]
    have ht : bs (wd l) = hngT := by rw [h3]; rfl
    rw [ht] at K1
    have X1 := D3_hng.1
    have X2 := D3_hng.2
    have K2 := hide (fun W a b => hang17 q (lf l) W a b hq hl2)
    generalize hangR (lf l) = o at *
    clear hx ht
    cases o with
    | none =>
      go_enter Tryz.func29, Tryz.ntmps29
      go_wp2_with (first | (go_at_call 47; refine (unhide K1 _ (unhide HU)).mono ?_; rintro e w1 ⟨rfl, hu1, hl1⟩; have HP1 := hide ((unhide HP).step hl1); have HU1 := hide hu1; have HN1 := hide ((unhide HN).lone hl1 hq); have o1 := own_loneD (unhide HO) hl1 (unhide HQ); obtain ⟨v, ps, hrun, hv⟩ := o1.look_ok law9 Tryz.underlying82 (zero39 _) (show fnE .nilFunc = some (.lit (.int .i64 (-1)), []) from rfl) (key9 hngT (by decide)); rw [X1] at hrun; rw [X2] at hv; obtain rfl := fnE_inv hv; clear hv; clear hu1 hl1 K1 o1) | (go_at_call 46; refine (unhide K2 _ (unhide HU1) (unhide HN1)).mono ?_; rintro e w2 ⟨rfl, hl2⟩; have HP2 := hide ((unhide HP1).step hl2)))
      exact ⟨rfl, rfl, (unhide HP2).lone⟩
    | some a =>
      go_enter Tryz.func29, Tryz.ntmps29
      go_wp2_with (first | (go_at_call 47; refine (unhide K1 _ (unhide HU)).mono ?_; rintro e w1 ⟨rfl, hu1, hl1⟩; have HP1 := hide ((unhide HP).step hl1); have HU1 := hide hu1; have HN1 := hide ((unhide HN).lone hl1 hq); have o1 := own_loneD (unhide HO) hl1 (unhide HQ); obtain ⟨v, ps, hrun, hv⟩ := o1.look_ok law9 Tryz.underlying82 (zero39 _) (show fnE .nilFunc = some (.lit (.int .i64 (-1)), []) from rfl) (key9 hngT (by decide)); rw [X1] at hrun; rw [X2] at hv; obtain rfl := fnE_inv hv; clear hv; clear hu1 hl1 K1 o1) | (go_at_call 46; refine (unhide K2 _ (unhide HU1) (unhide HN1)).mono ?_; rintro e w2 ⟨rfl, hl2⟩; have HP2 := hide ((unhide HP1).step hl2); clear hl2 K2) | (with_reducible change wpList _ _ _ ({ dst := none, op := Op.store 27 (Operand.tmp 2) _, type := _, pos := _, after := _, guard := _ } :: _) _ _; refine wpList_store_row rfl 27 _ _ rfl w.heap.size (atA a) rfl rfl 27 zA (unhide HP2).row (by kernel_rfl) rfl (by kernel_rfl) ?_))
      refine bodyPost_ret (v := atV a) ?_ rfl ?_
      · exact results_cell_row rfl _ _ w.heap.size 27 _ (0, 0) _ rfl ((unhide HP2).got _) Tryz.underlying27 rfl (by kernel_rfl)
      exact ⟨rfl, (unhide HP2).done _⟩
  rw [show actR l = none by unfold actR; rw [if_neg h1, if_neg h2, if_neg h3]]
  have HS : (bs (wd l)).size ≤ maxLen := by
    rw [bs_size]; have := wd_len l; unfold maxLen; omega
  have X1 := D3_none (bs (wd l)) (fun h => h1 (bs_inj.1 h)) (fun h => h2 (bs_inj.1 h)) (fun h => h3 (bs_inj.1 h))
  generalize bs (wd l) = t at *
  clear hx h1 h2 h3
  go_enter Tryz.func29, Tryz.ntmps29
  go_wp2_with (go_at_call 47; refine (unhide K1 _ (unhide HU)).mono ?_; rintro e w1 ⟨rfl, hu1, hl1⟩; have HP1 := hide ((unhide HP).step hl1); have HU1 := hide hu1; have HN1 := hide ((unhide HN).lone hl1 hq); have o1 := own_loneD (unhide HO) hl1 (unhide HQ); obtain ⟨v, ps, hrun, hv⟩ := o1.look_ok law9 Tryz.underlying82 (zero39 _) (show fnE .nilFunc = some (.lit (.int .i64 (-1)), []) from rfl) (key9 t HS); rw [X1] at hrun; clear hv; clear hu1 hl1 K1 o1)
  exact ⟨rfl, rfl, (unhide HP1).lone⟩
end Go.Proofs.YtbkcgkffafjbgaaGreatDoor
/- A line read by the program: what is no act is recovered where the line is read. -/
namespace Go.Proofs.YtbkcgkffafjbgaaGreatDoor
open Go.RowKit
set_option maxHeartbeats 4000000
set_option maxRecDepth 20000
theorem results_cells {P : Program} {fn : Func} {p u : Tmp} {ty tz : TypeId} (h : fn.results = #[.cell p ty, .cell u tz]) (tmps : Array Value) (w : World) (g g2 : Nat) (t : TypeId) (cs : Array Value) (fr : Nat × Nat) (d : TypeDesc) (x : Value)
    (hp : tmps.getD p undef = .pointer (some ⟨g, 0, none⟩)) (hx : tmps.getD u undef = .pointer (some ⟨g2, 0, none⟩)) (hg : w.heap[g]? = some (.cells cs t fr)) (hz : (loadVar tz ⟨g2, 0, none⟩).run P w = .ok x w)
    (hu : P.underlying ty = some d) (hd : (match d with | .struct _ | .array _ _ => true | _ => false) = true) (hi : (P.info? ty).map (·.size) = some cs.size) :
    (results fn tmps).run P w = .ok (.tuple #[.agg cs, x]) w := by
  have e : (results fn tmps).run P w = ((asAddr (tmps.getD p undef)).run P w).andThen fun a w1 => ((loadVar ty a).run P w1).andThen fun v w2 => ((asAddr (tmps.getD u undef)).run P w2).andThen fun b w3 => ((loadVar tz b).run P w3).andThen fun x w4 => .ok (.tuple #[v, x]) w4 := by
    simp only [results, h]
    simp [Sem.run_bind, Result.andThen]
  rw [e, hp, hx]
  simp [asAddr, run_loadVar_row w g t ty cs fr d hg hu hd hi, hz]
theorem load3 (w : World) (g : Nat) (c : Int) (h : w.cell? ⟨g, 0, none⟩ = some (.int .i64 c)) : (loadVar 3 ⟨g, 0, none⟩).run Tryz.prog w = .ok (.int .i64 c) w := by
  simp [go_sem, h]
theorem results_tmp_rowD {P : Program} {fn : Func} {p u : Tmp} {ty : TypeId} (h : fn.results = #[.cell p ty, .tmp u]) (tmps : Array Value) (w : World) (g : Nat) (t : TypeId) (cs : Array Value) (fr : Nat × Nat) (d : TypeDesc) (x : Value)
    (hp : tmps.getD p undef = .pointer (some ⟨g, 0, none⟩)) (hx : tmps.getD u undef = x) (hg : w.heap[g]? = some (.cells cs t fr))
    (hu : P.underlying ty = some d) (hd : (match d with | .struct _ | .array _ _ => true | _ => false) = true) (hi : (P.info? ty).map (·.size) = some cs.size) :
    (results fn tmps).run P w = .ok (.tuple #[.agg cs, x]) w := by
  rw [results_cell_tmp h, hp, hx]
  simp [asAddr, run_loadVar_row w g t ty cs fr d hg hu hd hi]
theorem catch13 (b c : Nat) (x : Int) (older : List PanicEntry) (w : World) (row : w.heap[b]? = some (.cells zA 27 (0, 0))) (hc : w.heap[c]? = some (.cells #[.int .i64 x] 3 (0, 0))) (hne : c ≠ b) :
    CallsD Tryz.prog 28 #[.pointer (some ⟨b, 0, none⟩), .pointer (some ⟨c, 0, none⟩)] (.panicking ({ v := .iface 3 (.int .i64 3), recovered := false } :: older)) w fun e u' w' =>
      e = .returned (.tuple #[]) ∧ u' = .panicking ({ v := .iface 3 (.int .i64 3), recovered := true } :: older) ∧ w' = (w.setRow b zA).setCell ⟨c, 0, none⟩ (.int .i64 3) := by
  refine callsD_of_wpS Tryz.func28 rfl fun c₀ cs hu => ?_
  apply wpS_seq
  apply wpS_region
  simp [wpOpsS, go_sem, recoverD, hu, Tryz.ntmps28, Exit.thenS]
  refine wpS_cond (t := true) (by simp [Act.eval, Array.replicate]) ?_
  simp only [if_true]
  refine wpS_of_wp ?_
  have c0 := row_cell (i := 0) (show (w.setRow b zA).heap[c]? = some (.cells #[.int .i64 x] 3 (0, 0)) by rw [get_setRow_other hne]; exact hc)
  have f0 := row_free (i := 0) (show (w.setRow b zA).heap[c]? = some (.cells #[.int .i64 x] 3 (0, 0)) by rw [get_setRow_other hne]; exact hc)
  simp at c0
  change Code.wp _ _ _ { tmps := #[.pointer (some ⟨b, 0, none⟩), .pointer (some ⟨c, 0, none⟩), .iface 3 (.int .i64 3), .bool true, undef], defers := [] } w
  go_wp2_with (with_reducible change wpList _ _ _ ({ dst := none, op := Op.store 27 (Operand.tmp 0) _, type := _, pos := _, after := _, guard := _ } :: _) _ _; refine wpList_store_row rfl 27 _ _ rfl b zA rfl rfl 27 zA row (by kernel_rfl) rfl (by kernel_rfl) ?_)
  simp [bodyPostS, results, Tryz.results28]
theorem catch13i (b c : Nat) (w : World) :
    CallsD Tryz.prog 28 #[.pointer (some ⟨b, 0, none⟩), .pointer (some ⟨c, 0, none⟩)] .returning w fun e u' w' => e = .returned (.tuple #[]) ∧ u' = .returning ∧ w' = w := by
  refine callsD_of_wpS Tryz.func28 rfl fun c₀ cs hu => ?_
  apply wpS_seq
  apply wpS_region
  simp [wpOpsS, go_sem, recoverD, hu, Tryz.ntmps28, Exit.thenS]
  refine wpS_cond (t := false) (by simp [Act.eval, Array.replicate]) ?_
  simp only [Bool.false_eq_true, if_false]
  refine wpS_of_wp (wp_skip ?_)
  cases c₀
  simp_all [bodyPostS, results, Tryz.results28]
/-- what a line is: an act, or none -/
def lineV (o : Option At) : Value :=
  match o with
  | some a => .tuple #[atV a, .int .i64 0]
  | none => .tuple #[.agg zA, .int .i64 3]
theorem actOf10 (l : By) (w : World) (hn : Nm w) (hl : l.length ≤ 65536) :
    Calls Tryz.prog 14 #[.string (bs l)] w fun e w' => e = .returned (lineV (actR l)) ∧ Below w.heap.size w w' := by
  have hmf : ∀ (fn : Fn) (first cap : Array Value) (w : World), (Instr.makeFunc fn first cap).run Tryz.prog w = .ok (.func fn first cap) w := fun _ _ _ _ => rfl
  have K := hide (fun W a b => act14 (w.heap.size + 1 + 1) l W a b (by omega) hl)
  have HN := hide (((hn.step (.cells zA 27)).step (.cells #[.int .i64 0] 3)).step (.cells #[.string (bs l)] 61))
  have HU : Hid (U (w.heap.size + 1 + 1) l (((w.alloc (.cells zA 27)).alloc (.cells #[.int .i64 0] 3)).alloc (.cells #[.string (bs l)] 61))) := hide (heap_at _ _ _ (by simp))
  generalize actR l = o at *
  clear hn hl
  have RB0 : (((w.alloc (.cells zA 27)).alloc (.cells #[.int .i64 0] 3)).alloc (.cells #[.string (bs l)] 61)).heap[w.heap.size]? = some (.cells zA 27 (0, 0)) :=
    ((bl_al (bl_al (Below.refl _ _))).block _ (by simp)).trans (heap_alloc_new w _)
  have RC0 : (((w.alloc (.cells zA 27)).alloc (.cells #[.int .i64 0] 3)).alloc (.cells #[.string (bs l)] 61)).heap[w.heap.size + 1]? = some (.cells #[.int .i64 0] 3 (0, 0)) :=
    ((bl_al (Below.refl _ _)).block _ (by simp)).trans (heap_at _ _ _ (by simp))
  have B0 : Below w.heap.size w (((w.alloc (.cells zA 27)).alloc (.cells #[.int .i64 0] 3)).alloc (.cells #[.string (bs l)] 61)) := bl_al (bl_al (bl_al (Below.refl _ _)))
  have HB0 := hide B0
  have HRB0 := hide RB0
  have HRC0 := hide RC0
  clear RB0 RC0 B0
  cases o with
  | none =>
    go_enter_defers Tryz.func14, Tryz.ntmps14
    go_wp2_with (go_at_call 29; refine (unhide K _ (unhide HU) (unhide HN)).mono ?_; rintro e w2 ⟨rfl, hl2⟩; have RB := hide (row_lone (unhide HRB0) hl2 (by omega)); have RC := hide (row_lone (unhide HRC0) hl2 (by omega)); have B2 := hide (hl2.below (unhide HB0) (by omega) (by simp; omega)); clear hl2)
    refine leaves_cons (f := 28) (args := #[.pointer (some ⟨w.heap.size, 0, none⟩), .pointer (some ⟨w.heap.size + 1, 0, none⟩)]) (by simp) (by simp [go_sem]) ?_
    refine (catch13 w.heap.size (w.heap.size + 1) 0 [] w2 (unhide RB) (unhide RC) (by omega)).mono ?_
    rintro e u' w'' ⟨rfl, rfl, rfl⟩
    refine ⟨_, results_cells (P := Tryz.prog) rfl _ _ w.heap.size (w.heap.size + 1) 27 zA (0, 0) _ (.int .i64 3) rfl rfl ?_ (load3 _ _ _ ?_) Tryz.underlying27 rfl (by kernel_rfl), rfl, ?_⟩
    · exact row_set_other (get_setRow (unhide RB)) (by omega)
    · rw [row_cell (row_set (i := 0) (v := .int .i64 3) (show (w2.setRow w.heap.size zA).heap[w.heap.size + 1]? = some (.cells #[.int .i64 0] 3 (0, 0)) by rw [get_setRow_other (by omega)]; exact unhide RC))]
      rfl
    · exact bl_set (below_setRow (unhide B2) (Nat.le_refl _)) (by omega)
  | some a =>
    go_enter_defers Tryz.func14, Tryz.ntmps14
    go_wp2_with (first | (go_at_call 29; refine (unhide K _ (unhide HU) (unhide HN)).mono ?_; rintro e w2 ⟨rfl, hl2⟩; have RB := hide (row_lone (unhide HRB0) hl2 (by omega)); have RC := hide (row_lone (unhide HRC0) hl2 (by omega)); have B2 := hide (hl2.below (unhide HB0) (by omega) (by simp; omega)); have RC2 : (w2.setRow w.heap.size (atA a)).heap[w.heap.size + 1]? = some (.cells #[.int .i64 0] 3 (0, 0)) := (by rw [get_setRow_other (by omega)]; exact unhide RC); have c1 := row_cell (i := 0) RC2; have f1 := row_free (i := 0) RC2; have HC2 := hide RC2; simp at c1; clear hl2 K RC2) | (with_reducible change wpList _ _ _ ({ dst := none, op := Op.store 27 (Operand.tmp 2) _, type := _, pos := _, after := _, guard := _ } :: _) _ _; refine wpList_store_row rfl 27 _ _ rfl w.heap.size (atA a) rfl rfl 27 zA (unhide RB) (by kernel_rfl) rfl (by kernel_rfl) ?_))
    refine leaves_cons (f := 28) (args := #[.pointer (some ⟨w.heap.size, 0, none⟩), .pointer (some ⟨w.heap.size + 1, 0, none⟩)]) (by simp) (by simp [go_sem]) ?_
    refine (catch13i w.heap.size (w.heap.size + 1) _).mono ?_
    rintro e u' w'' ⟨rfl, rfl, rfl⟩
    simp only [Leaves, settle]
    refine ⟨_, results_cells (P := Tryz.prog) rfl _ _ w.heap.size (w.heap.size + 1) 27 (atA a) (0, 0) _ (.int .i64 0) rfl rfl ?_ (load3 _ _ _ ?_) Tryz.underlying27 rfl (by kernel_rfl), rfl, ?_⟩
    · exact row_set_other (get_setRow (unhide RB)) (by omega)
    · rw [row_cell (row_set (i := 0) (v := .int .i64 0) (show (w2.setRow w.heap.size (atA a)).heap[w.heap.size + 1]? = some (.cells #[.int .i64 0] 3 (0, 0)) by rw [get_setRow_other (by omega)]; exact unhide RC))]
      rfl
    · exact bl_set (below_setRow (unhide B2) (Nat.le_refl _)) (by omega)
theorem long9 (t : ByteArray) (b : Bool) (w : World) (hb : decide (65536 < t.size) = b) (ht : t.size ≤ maxLen) :
    Calls Tryz.prog 13 #[.slice (some ⟨w.heap.size, 0, none⟩) 1 1] (w.alloc (.cells #[.string t] 9)) fun e w' => e = .returned (.bool b) ∧ w' = w.alloc (.cells #[.string t] 9) := by
  unfold maxLen at ht
  go_enter Tryz.func13, Tryz.ntmps13
  go_wp2
  go_loop [7] (fun i => ∃ j : Nat, j ≤ 1 ∧ i = .int .i64 j ∧ (0 < j → b = false)) (fun i => 1 - (intOf i).toNat)
  case atStart => exact ⟨0, by omega, rfl, fun h => absurd h (by omega)⟩
  case round =>
    obtain ⟨j, hj, rfl, h0⟩ := hrel
    rcases (by omega : j = 0 ∨ j = 1) with rfl | rfl
    · clear h0
      cases b
      · have q1 : (t.size : Int) ≤ 65536 := by have := of_decide_eq_false hb; omega
        clear hb
        go_wp2
        go_round
        case rel => exact ⟨1, by omega, by go_num, fun _ => by trivial⟩
        case measure => simp [intOf]
      · have q1 : (65536 : Int) < (t.size : Int) := by have := of_decide_eq_true hb; omega
        clear hb
        go_wp2
        go_ret
        exact ⟨rfl, rfl⟩
    · have h0 := h0 (by omega)
      subst h0
      go_wp2
      go_ret
      exact ⟨rfl, rfl⟩
/-- what ReadLine answers -/
def readV (l : By) : Value := if 65536 < l.length then .tuple #[.agg zA, .int .i64 2] else lineV (actR l)
theorem read5 (l : By) (w : World) (hn : Nm w) (hl : l.length ≤ maxLen) :
    Calls Tryz.prog 7 #[.string (bs l)] w fun e w' => e = .returned (readV l) ∧ Below w.heap.size w w' := by
  have hs := bs_size l
  have HB : Hid (Below w.heap.size w ((w.alloc (.cells zA 27)).alloc (.cells #[.string (bs l)] 9))) := hide (bl_al (bl_al (Below.refl _ _)))
  have RB : Hid (((w.alloc (.cells zA 27)).alloc (.cells #[.string (bs l)] 9)).heap[w.heap.size]? = some (.cells zA 27 (0, 0))) := hide (((bl_al (Below.refl _ _)).block _ (by simp)).trans (heap_alloc_new w _))
  have e1 : (w.alloc (.cells zA 27)).heap.size = w.heap.size + 1 := by simp
  have K9 := fun b hb => long9 (bs l) b (w.alloc (.cells zA 27)) hb (by rw [hs]; exact hl)
  rw [e1] at K9
  have HN := hide ((hn.step (.cells zA 27)).step (.cells #[.string (bs l)] 9))
  by_cases h : 65536 < l.length
  · have K := K9 true (decide_eq_true (by rw [hs]; exact h))
    rw [show readV l = .tuple #[.agg zA, .int .i64 2] by unfold readV; rw [if_pos h]]
    clear K9 h hs hn
    go_enter Tryz.func7, Tryz.ntmps7
    go_wp2_with (first | (go_at_call 13; refine K.mono ?_; rintro e w' ⟨rfl, rfl⟩) | (with_reducible change wpList _ _ _ ({ dst := none, op := Op.store 27 (Operand.tmp 2) _, type := _, pos := _, after := _, guard := _ } :: _) _ _; refine wpList_store_row rfl 27 _ _ rfl w.heap.size zA rfl rfl 27 zA (unhide RB) (by kernel_rfl) rfl (by kernel_rfl) ?_))
    refine bodyPost_ret (results_tmp_rowD rfl _ _ w.heap.size 27 zA (0, 0) _ (.int .i64 2) rfl rfl (get_setRow (unhide RB)) Tryz.underlying27 rfl (by kernel_rfl)) rfl ?_
    exact ⟨rfl, below_setRow (unhide HB) (Nat.le_refl _)⟩
  · have K := K9 false (decide_eq_false (by rw [hs]; exact h))
    rw [show readV l = lineV (actR l) by unfold readV; rw [if_neg h]]
    have K2 := hide (fun W a => actOf10 l W a (by omega))
    clear K9 h hs hn
    generalize actR l = o at *
    obtain ⟨cs, c, hcs, hi, h1, ho⟩ : ∃ cs c, zA.size = cs.size ∧ (Tryz.prog.info? 27).map (·.size) = some cs.size ∧ cs.all (·.oneCell') = true ∧ lineV o = .tuple #[.agg cs, .int .i64 c] := by
      cases o with
      | none => exact ⟨zA, 3, rfl, by kernel_rfl, by kernel_rfl, rfl⟩
      | some a => exact ⟨atA a, 0, rfl, by kernel_rfl, by kernel_rfl, rfl⟩
    rw [ho] at K2 ⊢
    have H1 := hide hcs
    have H2 := hide hi
    have H3 := hide h1
    clear hcs hi h1 ho
    go_enter Tryz.func7, Tryz.ntmps7
    go_wp2_with (first | (go_at_call 13; refine K.mono ?_; rintro e w' ⟨rfl, rfl⟩) | (go_at_call 14; refine (unhide K2 _ (unhide HN)).mono ?_; rintro e w2 ⟨rfl, hb⟩; have HB2 := hide (bl_st hb (unhide HB)); have RB2 := hide ((hb.block _ (by simp; omega)).trans (unhide RB)); clear hb) | (with_reducible change wpList _ _ _ ({ dst := none, op := Op.store 27 (Operand.tmp 2) _, type := _, pos := _, after := _, guard := _ } :: _) _ _; refine wpList_store_row rfl 27 _ _ rfl w.heap.size cs rfl rfl 27 zA (unhide RB2) (unhide H2) (unhide H1) (unhide H3) ?_))
    refine bodyPost_ret (results_tmp_rowD rfl _ _ w.heap.size 27 cs (0, 0) _ (.int .i64 c) rfl rfl (get_setRow (unhide RB2)) Tryz.underlying27 rfl (unhide H2)) rfl ?_
    exact ⟨rfl, below_setRow (unhide HB2) (Nat.le_refl _)⟩
end Go.Proofs.YtbkcgkffafjbgaaGreatDoor
