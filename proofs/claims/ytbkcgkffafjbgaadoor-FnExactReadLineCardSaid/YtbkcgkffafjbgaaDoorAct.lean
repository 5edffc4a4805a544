/- Any act, by the map to its methods; the program's side. -/
import Derived.Test.YtbkcgkffafjbgaaDoorRou
import Derived.Maps.OwnSet
import Derived.Maps.Views
import Derived.StringKeys
namespace Go.Proofs.YtbkcgkffafjbgaaDoor
open Go.RowKit Go.Maps Go.WideMaps
set_option maxHeartbeats 4000000
set_option maxRecDepth 20000
theorem law9 : Keyed Tryd.prog 9 := string_keyed Tryd.underlying9
/-- a text as a key -/
def ky (s : ByteArray) : Lit := .string s.data.toList
theorem key9 (s : ByteArray) (h : s.size ≤ maxLen) : keyOf Tryd.prog 9 (.string s) = some (ky s) := keyOf_string_mk Tryd.underlying9 h
/-- how a method in the map is read -/
def fnE (v : Value) : Option (DataW Unit × List MemPlace) :=
  match v with
  | .func (.func n) a b => if a.size = 0 ∧ b.size = 0 then some (.lit (.int .i64 n), []) else none
  | .nilFunc => some (.lit (.int .i64 (-1)), [])
  | _ => none
theorem fnE_mk (n : Nat) : fnE (.func (.func n) #[] #[]) = some (.lit (.int .i64 n), []) := rfl
theorem fnE_inv {v : Value} {n : Nat} {qs : List MemPlace} (h : fnE v = some (.lit (.int .i64 n), qs)) : v = .func (.func n) #[] #[] := by
  unfold fnE at h
  split at h
  · split at h
    · rename_i m a b hab
      obtain ⟨ha, hb⟩ := hab
      have ha := Array.eq_empty_of_size_eq_zero ha
      have hb := Array.eq_empty_of_size_eq_zero hb
      subst ha hb
      simp at h
      obtain ⟨h, _⟩ := h
      have h : m = n := Int.ofNat.inj h
      subst h; rfl
    · cases h
  · simp at h
  · cases h
abbrev sayT : ByteArray := ⟨#[115, 97, 121]⟩
abbrev rndT : ByteArray := ⟨#[114, 111, 117, 110, 100]⟩
abbrev hngT : ByteArray := ⟨#[104, 97, 110, 103]⟩
def D3 : DataW Unit := (((DataW.map []).put (ky sayT) (.lit (.int .i64 ((15 : Nat) : Int)))).put (ky rndT) (.lit (.int .i64 ((16 : Nat) : Int)))).put (ky hngT) (.lit (.int .i64 ((17 : Nat) : Int)))
theorem D3_say : Maps.has D3 (ky sayT) = true ∧ D3.atKey (ky sayT) (.lit (.int .i64 (-1))) = .lit (.int .i64 ((15 : Nat) : Int)) := by constructor <;> rfl
theorem D3_rnd : Maps.has D3 (ky rndT) = true ∧ D3.atKey (ky rndT) (.lit (.int .i64 (-1))) = .lit (.int .i64 ((16 : Nat) : Int)) := by constructor <;> rfl
theorem D3_hng : Maps.has D3 (ky hngT) = true ∧ D3.atKey (ky hngT) (.lit (.int .i64 (-1))) = .lit (.int .i64 ((17 : Nat) : Int)) := by constructor <;> rfl
theorem ky_inj {s t : ByteArray} (h : ky s = ky t) : s = t := by
  injection h with h
  cases s; cases t
  simp at h
  simp [h]
theorem D3_none (s : ByteArray) (h1 : s ≠ sayT) (h2 : s ≠ rndT) (h3 : s ≠ hngT) : Maps.has D3 (ky s) = false := by
  unfold D3
  rw [has_put_other (fun h => h3 (ky_inj h)), has_put_other (fun h => h2 (ky_inj h)), has_put_other (fun h => h1 (ky_inj h))]
  rfl
theorem zero39 (w : World) : (zeroValue 39).run Tryd.prog w = .ok .nilFunc w := by kernel_rfl
/-- the map to the methods, as it is made -/
theorem made (w : World) : ∃ W1 W2 W3 : World,
    (Instr.mapUpdate 40 (.map (some (w.heap.size + 1))) (.string sayT) (.func (.func 15) #[] #[])).run Tryd.prog ((w.alloc (.cells zA 23)).alloc (.map #[] 0)) = .ok () W1 ∧
    (Instr.mapUpdate 40 (.map (some (w.heap.size + 1))) (.string rndT) (.func (.func 16) #[] #[])).run Tryd.prog W1 = .ok () W2 ∧
    (Instr.mapUpdate 40 (.map (some (w.heap.size + 1))) (.string hngT) (.func (.func 17) #[] #[])).run Tryd.prog W2 = .ok () W3 ∧
    Hid (W3.ownsMap Tryd.prog 9 fnE (w.heap.size + 1) 3 D3) ∧ Hid (((w.alloc (.cells zA 23)).alloc (.map #[] 0)).grownBy W3 (some (w.heap.size + 1))) := by
  have e : (w.alloc (.cells zA 23)).heap.size = w.heap.size + 1 := by simp
  have o0 := World.ownsMap_made (w.alloc (.cells zA 23)) Tryd.prog 9 fnE
  rw [e] at o0
  obtain ⟨W1, r1, o1, g1⟩ := o0.update law9 Tryd.underlying40 (by decide) (key9 sayT (by decide)) (fnE_mk 15)
  obtain ⟨W2, r2, o2, g2⟩ := o1.update law9 Tryd.underlying40 (by decide) (key9 rndT (by decide)) (fnE_mk 16)
  obtain ⟨W3, r3, o3, g3⟩ := o2.update law9 Tryd.underlying40 (by decide) (key9 hngT (by decide)) (fnE_mk 17)
  exact ⟨W1, W2, W3, r1, r2, r3, hide o3, hide ((g1.trans g2).trans g3)⟩
theorem lone_grown {q b : Nat} {w W X : World} (h : Lone q w W) (hg : W.grownBy X (some b)) (hb : w.heap.size ≤ b) : Lone q w X := by
  refine ⟨hg.os.trans h.os, hg.tape.trans h.tape, hg.output.trans h.output, Nat.le_trans h.size hg.size, fun k hk hq => (hg.block k (Nat.lt_of_lt_of_le hk h.size) (by intro e; injection e with e; omega)).trans (h.block k hk hq)⟩
theorem own_lone {q b n : Nat} {W X : World} {D : DataW Unit} (h : W.ownsMap Tryd.prog 9 fnE b n D) (hl : Lone q W X) (hb : b ≠ q) : X.ownsMap Tryd.prog 9 fnE b n D := by
  have hlt := h.lt
  obtain ⟨es, clock, e, r⟩ := h
  exact ⟨es, clock, (hl.block b hlt hb).trans e, r⟩
theorem wd_len (l : By) : (wd l).length ≤ l.length := by
  have h1 := congrArg List.length (wd_rs l)
  have h2 := dropWhile_len bla l
  rw [List.length_append] at h1
  unfold tl at h1
  omega
theorem act14 (q : Nat) (l : By) (w : World) (hu : U q l w) (hn : Nm w) (hq : 0 < q) (hl : l.length ≤ 65536) :
    Calls Tryd.prog 14 #[.pointer (some ⟨q, 0, none⟩)] w (endA (actR l) q w) := by
  have hmm := @run_makeMap Tryd.prog
  obtain ⟨W1, W2, W3, r1, r2, r3, HO, HG⟩ := made w
  have P0 := (Pg.start hu.lt).alloc (.map #[] 0)
  have hlt := hu.lt
  have HP : Hid (Pg q w.heap.size w W3) := hide ⟨lone_grown P0.lone (unhide HG) (by omega), ((unhide HG).block _ (by simp; omega) (by intro e; injection e with e; omega)).trans P0.row, P0.ne, P0.ge⟩
  have HU : Hid (U q l W3) := hide (((unhide HG).block q (by simp; omega) (by intro e; injection e with e; omega)).trans ((hu.step _).step _))
  have HN : Hid (Nm W3) := hide (by obtain ⟨t, fr, e⟩ := (hn.step (.cells zA 23)).step (.map #[] 0); exact ⟨t, fr, ((unhide HG).block 0 (by simp) (by intro e; injection e with e; omega)).trans e⟩)
  have HQ : Hid (w.heap.size + 1 ≠ q) := hide (by omega)
  have K1 := hide (fun W h => word18 q l W h hl)
  have hl2 := Nat.le_trans (lf_len l) hl
  clear P0 hlt HG hu hn
  have hx := bs_toList (wd l)
  by_cases h1 : wd l = [115, 97, 121]
  · rw [show actR l = sayR (lf l) by unfold actR; rw [if_pos h1]]
    have ht : bs (wd l) = sayT := by rw [h1]; rfl
    rw [ht] at K1
    have X1 := D3_say.1
    have X2 := D3_say.2
    have K2 := hide (fun W a b => say15 q (lf l) W a b hq hl2)
    generalize sayR (lf l) = o at *
    clear hx ht
    cases o with
    | none =>
      go_enter Tryd.func14, Tryd.ntmps14
      go_wp2_with (first | (go_at_call 18; refine (unhide K1 _ (unhide HU)).mono ?_; rintro e w1 ⟨rfl, hu1, hl1⟩; have HP1 := hide ((unhide HP).step hl1); have HU1 := hide hu1; have HN1 := hide ((unhide HN).lone hl1 hq); have o1 := own_lone (unhide HO) hl1 (unhide HQ); obtain ⟨v, ps, hrun, hv⟩ := o1.look_ok law9 Tryd.underlying40 (zero39 _) (show fnE .nilFunc = some (.lit (.int .i64 (-1)), []) from rfl) (key9 sayT (by decide)); rw [X1] at hrun; rw [X2] at hv; obtain rfl := fnE_inv hv; clear hv; clear hu1 hl1 K1 o1) | (go_at_call 15; refine (unhide K2 _ (unhide HU1) (unhide HN1)).mono ?_; rintro e w2 ⟨rfl, hl2⟩; have HP2 := hide ((unhide HP1).step hl2)))
      exact ⟨rfl, rfl, (unhide HP2).lone⟩
    | some a =>
      go_enter Tryd.func14, Tryd.ntmps14
      go_wp2_with (first | (go_at_call 18; refine (unhide K1 _ (unhide HU)).mono ?_; rintro e w1 ⟨rfl, hu1, hl1⟩; have HP1 := hide ((unhide HP).step hl1); have HU1 := hide hu1; have HN1 := hide ((unhide HN).lone hl1 hq); have o1 := own_lone (unhide HO) hl1 (unhide HQ); obtain ⟨v, ps, hrun, hv⟩ := o1.look_ok law9 Tryd.underlying40 (zero39 _) (show fnE .nilFunc = some (.lit (.int .i64 (-1)), []) from rfl) (key9 sayT (by decide)); rw [X1] at hrun; rw [X2] at hv; obtain rfl := fnE_inv hv; clear hv; clear hu1 hl1 K1 o1) | (go_at_call 15; refine (unhide K2 _ (unhide HU1) (unhide HN1)).mono ?_; rintro e w2 ⟨rfl, hl2⟩; have HP2 := hide ((unhide HP1).step hl2); clear hl2 K2) | (with_reducible change wpList _ _ _ ({ dst := none, op := Op.store 23 (Operand.tmp 2) _, type := _, pos := _, after := _, guard := _ } :: _) _ _; refine wpList_store_row rfl 23 _ _ rfl w.heap.size (atA a) rfl rfl 23 zA (unhide HP2).row (by kernel_rfl) rfl (by kernel_rfl) ?_))
      refine bodyPost_ret (v := atV a) ?_ rfl ?_
      · exact results_cell_row rfl _ _ w.heap.size 23 _ (0, 0) _ rfl ((unhide HP2).got _) Tryd.underlying23 rfl (by kernel_rfl)
      exact ⟨rfl, (unhide HP2).done _⟩
  by_cases h2 : wd l = [114, 111, 117, 110, 100]
  · rw [show actR l = roundR (lf l) by unfold actR; rw [if_neg h1, if_pos h2]]
    have ht : bs (wd l) = rndT := by rw [h2]; rfl
    rw [ht] at K1
    have X1 := D3_rnd.1
    have X2 := D3_rnd.2
    have K2 := hide (fun W a b => round16 q (lf l) W a b hq hl2)
    generalize roundR (lf l) = o at *
    clear hx ht
    cases o with
    | none =>
      go_enter Tryd.func14, Tryd.ntmps14
      go_wp2_with (first | (go_at_call 18; refine (unhide K1 _ (unhide HU)).mono ?_; rintro e w1 ⟨rfl, hu1, hl1⟩; have HP1 := hide ((unhide HP).step hl1); have HU1 := hide hu1; have HN1 := hide ((unhide HN).lone hl1 hq); have o1 := own_lone (unhide HO) hl1 (unhide HQ); obtain ⟨v, ps, hrun, hv⟩ := o1.look_ok law9 Tryd.underlying40 (zero39 _) (show fnE .nilFunc = some (.lit (.int .i64 (-1)), []) from rfl) (key9 rndT (by decide)); rw [X1] at hrun; rw [X2] at hv; obtain rfl := fnE_inv hv; clear hv; clear hu1 hl1 K1 o1) | (go_at_call 16; refine (unhide K2 _ (unhide HU1) (unhide HN1)).mono ?_; rintro e w2 ⟨rfl, hl2⟩; have HP2 := hide ((unhide HP1).step hl2)))
      exact ⟨rfl, rfl, (unhide HP2).lone⟩
    | some a =>
      go_enter Tryd.func14, Tryd.ntmps14
      go_wp2_with (first | (go_at_call 18; refine (unhide K1 _ (unhide HU)).mono ?_; rintro e w1 ⟨rfl, hu1, hl1⟩; have HP1 := hide ((unhide HP).step hl1); have HU1 := hide hu1; have HN1 := hide ((unhide HN).lone hl1 hq); have o1 := own_lone (unhide HO) hl1 (unhide HQ); obtain ⟨v, ps, hrun, hv⟩ := o1.look_ok law9 Tryd.underlying40 (zero39 _) (show fnE .nilFunc = some (.lit (.int .i64 (-1)), []) from rfl) (key9 rndT (by decide)); rw [X1] at hrun; rw [X2] at hv; obtain rfl := fnE_inv hv; clear hv; clear hu1 hl1 K1 o1) | (go_at_call 16; refine (unhide K2 _ (unhide HU1) (unhide HN1)).mono ?_; rintro e w2 ⟨rfl, hl2⟩; have HP2 := hide ((unhide HP1).step hl2); clear hl2 K2) | (with_reducible change wpList _ _ _ ({ dst := none, op := Op.store 23 (Operand.tmp 2) _, type := _, pos := _, after := _, guard := _ } :: _) _ _; refine wpList_store_row rfl 23 _ _ rfl w.heap.size (atA a) rfl rfl 23 zA (unhide HP2).row (by kernel_rfl) rfl (by kernel_rfl) ?_))
      refine bodyPost_ret (v := atV a) ?_ rfl ?_
      · exact results_cell_row rfl _ _ w.heap.size 23 _ (0, 0) _ rfl ((unhide HP2).got _) Tryd.underlying23 rfl (by kernel_rfl)
      exact ⟨rfl, (unhide HP2).done _⟩
  by_cases h3 : wd l = [104, 97, 110, 103]
  · rw [show actR l = hangR (lf l) by unfold actR; rw [if_neg h1, if_neg h2, if_pos h3]]
    have ht : bs (wd l) = hngT := by rw [h3]; rfl
    rw [ht] at K1
    have X1 := D3_hng.1
    have X2 := D3_hng.2
    have K2 := hide (fun W a b => hang17 q (lf l) W a b hq hl2)
    generalize hangR (lf l) = o at *
    clear hx ht
    cases o with
    | none =>
      go_enter Tryd.func14, Tryd.ntmps14
      go_wp2_with (first | (go_at_call 18; refine (unhide K1 _ (unhide HU)).mono ?_; rintro e w1 ⟨rfl, hu1, hl1⟩; have HP1 := hide ((unhide HP).step hl1); have HU1 := hide hu1; have HN1 := hide ((unhide HN).lone hl1 hq); have o1 := own_lone (unhide HO) hl1 (unhide HQ); obtain ⟨v, ps, hrun, hv⟩ := o1.look_ok law9 Tryd.underlying40 (zero39 _) (show fnE .nilFunc = some (.lit (.int .i64 (-1)), []) from rfl) (key9 hngT (by decide)); rw [X1] at hrun; rw [X2] at hv; obtain rfl := fnE_inv hv; clear hv; clear hu1 hl1 K1 o1) | (go_at_call 17; refine (unhide K2 _ (unhide HU1) (unhide HN1)).mono ?_; rintro e w2 ⟨rfl, hl2⟩; have HP2 := hide ((unhide HP1).step hl2)))
      exact ⟨rfl, rfl, (unhide HP2).lone⟩
    | some a =>
      go_enter Tryd.func14, Tryd.ntmps14
      go_wp2_with (first | (go_at_call 18; refine (unhide K1 _ (unhide HU)).mono ?_; rintro e w1 ⟨rfl, hu1, hl1⟩; have HP1 := hide ((unhide HP).step hl1); have HU1 := hide hu1; have HN1 := hide ((unhide HN).lone hl1 hq); have o1 := own_lone (unhide HO) hl1 (unhide HQ); obtain ⟨v, ps, hrun, hv⟩ := o1.look_ok law9 Tryd.underlying40 (zero39 _) (show fnE .nilFunc = some (.lit (.int .i64 (-1)), []) from rfl) (key9 hngT (by decide)); rw [X1] at hrun; rw [X2] at hv; obtain rfl := fnE_inv hv; clear hv; clear hu1 hl1 K1 o1) | (go_at_call 17; refine (unhide K2 _ (unhide HU1) (unhide HN1)).mono ?_; rintro e w2 ⟨rfl, hl2⟩; have HP2 := hide ((unhide HP1).step hl2); clear hl2 K2) | (with_reducible change wpList _ _ _ ({ dst := none, op := Op.store 23 (Operand.tmp 2) _, type := _, pos := _, after := _, guard := _ } :: _) _ _; refine wpList_store_row rfl 23 _ _ rfl w.heap.size (atA a) rfl rfl 23 zA (unhide HP2).row (by kernel_rfl) rfl (by kernel_rfl) ?_))
      refine bodyPost_ret (v := atV a) ?_ rfl ?_
      · exact results_cell_row rfl _ _ w.heap.size 23 _ (0, 0) _ rfl ((unhide HP2).got _) Tryd.underlying23 rfl (by kernel_rfl)
      exact ⟨rfl, (unhide HP2).done _⟩
  rw [show actR l = none by unfold actR; rw [if_neg h1, if_neg h2, if_neg h3]]
  have HS : (bs (wd l)).size ≤ maxLen := by
    rw [bs_size]; have := wd_len l; unfold maxLen; omega
  have X1 := D3_none (bs (wd l)) (fun h => h1 (bs_inj.1 h)) (fun h => h2 (bs_inj.1 h)) (fun h => h3 (bs_inj.1 h))
  generalize bs (wd l) = t at *
  clear hx h1 h2 h3
  go_enter Tryd.func14, Tryd.ntmps14
  go_wp2_with (go_at_call 18; refine (unhide K1 _ (unhide HU)).mono ?_; rintro e w1 ⟨rfl, hu1, hl1⟩; have HP1 := hide ((unhide HP).step hl1); have HU1 := hide hu1; have HN1 := hide ((unhide HN).lone hl1 hq); have o1 := own_lone (unhide HO) hl1 (unhide HQ); obtain ⟨v, ps, hrun, hv⟩ := o1.look_ok law9 Tryd.underlying40 (zero39 _) (show fnE .nilFunc = some (.lit (.int .i64 (-1)), []) from rfl) (key9 t HS); rw [X1] at hrun; clear hv; clear hu1 hl1 K1 o1)
  exact ⟨rfl, rfl, (unhide HP1).lone⟩
end Go.Proofs.YtbkcgkffafjbgaaDoor
