/- Acts that are read off a line; the program's side. -/
import Derived.Test.YtbkcgkffafjbgaaDoorWrd
import Derived.Laws.Rows
namespace Go.Proofs.YtbkcgkffafjbgaaDoor
open Go.RowKit
set_option maxHeartbeats 4000000
set_option maxRecDepth 20000
/-- an act -/
structure At where
  k : Int
  w : Int
  t : By
  la : Bool
  lb : Bool
def atA (a : At) : Array Value := #[.int .i64 a.k, .int .i64 a.w, .string (bs a.t), .bool a.la, .bool a.lb]
def atV (a : At) : Value := .agg (atA a)
def endA (o : Option At) (q : Nat) (w : World) (e : Ending) (w' : World) : Prop :=
  match o with
  | some a => e = .returned (atV a) ∧ Lone q w w'
  | none => e = .panicked [formP] ∧ Lone q w w'
theorem clone20 (s : ByteArray) (w : World) (hs : s.size ≤ 65536) : Calls Tryd.prog 20 #[.string s] w fun e w' => e = .returned (.string s) ∧ Below w.heap.size w w' := by
  have K := stringslite_Clone s w (by omega)
  go_enter Tryd.func20, Tryd.ntmps20
  go_wp2_with (go_at_call 26; refine K.mono ?_; rintro e w' ⟨rfl, hb⟩)
  go_ret
  exact ⟨rfl, hb⟩
def sayR (l : By) : Option At := (whoF (wd l)).bind fun k => if (tr (lf l)).length ≤ 40 then some ⟨1, k, tr (lf l), false, false⟩ else none
def hangR (l : By) : Option At := (whoF (wd l)).bind fun k => if tr (lf l) = [] then some ⟨3, k, [], false, false⟩ else none
def roundR (l : By) : Option At :=
  if wd l = [] then some ⟨2, 0, [], false, false⟩ else if wd l = [108, 111, 115, 101] then (lostF (wd (lf l))).bind fun p => if tr (lf (lf l)) = [] then some ⟨2, 0, [], p.1, p.2⟩ else none else none
def actR (l : By) : Option At :=
  if wd l = [115, 97, 121] then sayR (lf l) else if wd l = [114, 111, 117, 110, 100] then roundR (lf l) else if wd l = [104, 97, 110, 103] then hangR (lf l) else none
theorem Lone.alloc {q : Nat} {w w' : World} (h : Lone q w w') (o : Obj) : Lone q w (w'.alloc o) := h.trans (Lone.of_below (bl_al (Below.refl _ _)))
theorem Lone.setRow {q b : Nat} {w W : World} {cs : Array Value} (h : Lone q w W) (hb : w.heap.size ≤ b) : Lone q w (W.setRow b cs) :=
  ⟨h.os, h.tape, h.output, by simpa [World.setRow] using h.size, fun k hk hq => by rw [get_setRow_other (by omega)]; exact h.block k hk hq⟩
abbrev zA : Array Value := #[.int .i64 0, .int .i64 0, .string ⟨#[]⟩, .bool false, .bool false]
/-- what a reading has done so far: nothing but to the line; the answer's block is as it was made -/
structure Pg (q b : Nat) (w W : World) : Prop where
  lone : Lone q w W
  row : W.heap[b]? = some (.cells zA 23 (0, 0))
  ne : b ≠ q
  ge : w.heap.size ≤ b
theorem Pg.start {q : Nat} {w : World} (hq : q < w.heap.size) : Pg q w.heap.size w (w.alloc (.cells zA 23)) := ⟨(Lone.refl q w).alloc _, heap_alloc_new _ _, by omega, Nat.le_refl _⟩
theorem Pg.step {q b : Nat} {w W X : World} (h : Pg q b w W) (hl : Lone q W X) : Pg q b w X :=
  ⟨h.lone.trans hl, (hl.block b (Array.getElem?_eq_some_iff.1 h.row).1 h.ne).trans h.row, h.ne, h.ge⟩
theorem Pg.below {q b : Nat} {w W X : World} (h : Pg q b w W) (hl : Below W.heap.size W X) : Pg q b w X := h.step (Lone.of_below hl)
theorem Pg.alloc {q b : Nat} {w W : World} (h : Pg q b w W) (o : Obj) : Pg q b w (W.alloc o) := h.below (bl_al (Below.refl _ _))
theorem Pg.done {q b : Nat} {w W : World} (h : Pg q b w W) (cs : Array Value) : Lone q w (W.setRow b cs) := h.lone.setRow h.ge
theorem Pg.got {q b : Nat} {w W : World} (h : Pg q b w W) (cs : Array Value) : (W.setRow b cs).heap[b]? = some (.cells cs 23 (0, 0)) := get_setRow h.row
theorem row_lone {q b : Nat} {W X : World} {o : Obj} (h : W.heap[b]? = some o) (hl : Lone q W X) (hb : b ≠ q) : X.heap[b]? = some o := (hl.block b (Array.getElem?_eq_some_iff.1 h).1 hb).trans h
theorem U.step {q : Nat} {w : World} {l : By} (h : U q l w) (o : Obj) : U q l (w.alloc o) := h.below (bl_al (Below.refl _ _))
theorem Nm.step {w : World} (h : Nm w) (o : Obj) : Nm (w.alloc o) := h.below (bl_al (Below.refl _ _))
theorem cellsOf23 : (Tryd.prog.info? 23).map (·.size) = some 5 := by kernel_rfl
theorem long22 (t : ByteArray) (b : Bool) (W : World) (h : decide (40 < t.size) = b) (ht : t.size ≤ 65536) : Calls Tryd.prog 22 #[.string t] W fun e w' => e = .returned (.bool b) ∧ w' = W := by
  cases b
  · have h := of_decide_eq_false h
    have q1 : (t.size : Int) ≤ 40 := by omega
    go_enter Tryd.func22, Tryd.ntmps22
    go_wp2
    go_ret
    exact ⟨congrArg (fun b => Ending.returned (.bool b)) (decide_eq_false (Int.not_lt.2 q1)), rfl⟩
  · have h := of_decide_eq_true h
    have q1 : (40 : Int) < (t.size : Int) := by omega
    go_enter Tryd.func22, Tryd.ntmps22
    go_wp2
    go_ret
    exact ⟨rfl, rfl⟩
theorem say15 (q : Nat) (l : By) (w : World) (hu : U q l w) (hn : Nm w) (hq : 0 < q) (hl : l.length ≤ 65536) :
    Calls Tryd.prog 15 #[.pointer (some ⟨q, 0, none⟩)] w (endA (sayR l) q w) := by
  have HP := hide (Pg.start hu.lt)
  have HN := hide (hn.step (.cells zA 23))
  have HU := hide (hu.step (.cells zA 23))
  have hl2 := Nat.le_trans (lf_len l) hl
  have K1 := hide (fun W h1 h2 => who19 q l W h1 h2 hq hl)
  clear hu hn hl
  cases hwho : whoF (wd l) with
  | none =>
    rw [hwho] at K1
    rw [show sayR l = none by unfold sayR; rw [hwho]; rfl]
    clear hwho
    go_enter Tryd.func15, Tryd.ntmps15
    go_wp2_with (go_at_call 19; refine (unhide K1 _ (unhide HU) (unhide HN)).mono ?_; rintro e w1 ⟨rfl, hl1⟩)
    exact ⟨rfl, rfl, ((unhide HP).step hl1).lone⟩
  | some k =>
    rw [hwho] at K1
    have K2 := hide (fun W h => text21 q (lf l) W h hl2)
    have hs := bs_size (tr (lf l))
    have hs2 := Nat.le_trans (tr_len (lf l)) hl2
    obtain ⟨b, hb⟩ : ∃ b, decide (40 < (bs (tr (lf l))).size) = b := ⟨_, rfl⟩
    have K3 := hide (fun W => clone20 (bs (tr (lf l))) W (by omega))
    have K4 := hide (fun W => long22 (bs (tr (lf l))) b W hb (by omega))
    obtain ⟨t, ht⟩ : ∃ t, t = bs (tr (lf l)) := ⟨_, rfl⟩
    cases b with
    | true =>
      have hlen : ¬ (tr (lf l)).length ≤ 40 := by have := of_decide_eq_true hb; omega
      rw [show sayR l = none by unfold sayR; rw [hwho]; simp only [Option.bind]; rw [if_neg hlen]]
      rw [← ht] at K2 K3 K4
      clear hwho hb hs hlen ht hs2
      go_enter Tryd.func15, Tryd.ntmps15
      go_wp2_with (go_at_call 19; refine (unhide K1 _ (unhide HU) (unhide HN)).mono ?_; rintro e w1 ⟨rfl, hu1, hl1⟩; have HP1 := hide ((unhide HP).step hl1); have HU1 := hide hu1; clear hu1 hl1 K1)
      go_wp2_with (go_at_call 21; refine (unhide K2 _ (unhide HU1)).mono ?_; rintro e w2 ⟨rfl, hw⟩; have HP2 := hide ((unhide HP1).step (lone_dr hw)); clear hw K2)
      go_wp2_with (go_at_call 20; refine (unhide K3 _).mono ?_; rintro e w3 ⟨rfl, hb3⟩; have HP3 := hide ((unhide HP2).below hb3); clear hb3 K3)
      go_wp2_with (go_at_call 22; refine (unhide K4 _).mono ?_; rintro e w4 ⟨rfl, rfl⟩)
      exact ⟨rfl, rfl, ((unhide HP3).alloc _).lone⟩
    | false =>
      have hlen : (tr (lf l)).length ≤ 40 := by have := of_decide_eq_false hb; omega
      rw [show sayR l = some ⟨1, k, tr (lf l), false, false⟩ by unfold sayR; rw [hwho]; simp only [Option.bind]; rw [if_pos hlen]]
      rw [← ht] at K2 K3 K4
      have HT := hide ht
      clear hwho hb hs hlen ht hs2
      go_enter Tryd.func15, Tryd.ntmps15
      go_wp2_with (go_at_call 19; refine (unhide K1 _ (unhide HU) (unhide HN)).mono ?_; rintro e w1 ⟨rfl, hu1, hl1⟩; have HP1 := hide ((unhide HP).step hl1); have HU1 := hide hu1; clear hu1 hl1 K1)
      go_wp2_with (go_at_call 21; refine (unhide K2 _ (unhide HU1)).mono ?_; rintro e w2 ⟨rfl, hw⟩; have HP2 := hide ((unhide HP1).step (lone_dr hw)); clear hw K2)
      go_wp2_with (go_at_call 20; refine (unhide K3 _).mono ?_; rintro e w3 ⟨rfl, hb3⟩; have HP3 := hide (((unhide HP2).below hb3).alloc (.cells #[.int .i64 1, .int .i64 k, .string t, .bool false, .bool false] 23)); clear hb3 K3)
      go_wp2_with (first | (go_at_call 22; refine (unhide K4 _).mono ?_; rintro e w4 ⟨rfl, rfl⟩) | (with_reducible change wpList _ _ _ ({ dst := none, op := Op.store 23 (Operand.tmp 2) _, type := _, pos := _, after := _, guard := _ } :: _) _ _; refine wpList_store_row rfl 23 _ _ rfl w.heap.size #[.int .i64 1, .int .i64 k, .string t, .bool false, .bool false] rfl rfl 23 zA (unhide HP3).row (by kernel_rfl) rfl (by kernel_rfl) ?_))
      have := unhide HT
      subst this
      refine bodyPost_ret (v := atV ⟨1, k, tr (lf l), false, false⟩) ?_ rfl ?_
      · exact results_cell_row rfl _ _ w.heap.size 23 _ (0, 0) _ rfl ((unhide HP3).got _) Tryd.underlying23 rfl (by kernel_rfl)
      exact ⟨rfl, (unhide HP3).done _⟩
theorem hang17 (q : Nat) (l : By) (w : World) (hu : U q l w) (hn : Nm w) (hq : 0 < q) (hl : l.length ≤ 65536) :
    Calls Tryd.prog 17 #[.pointer (some ⟨q, 0, none⟩)] w (endA (hangR l) q w) := by
  have HP := hide (Pg.start hu.lt)
  have HN := hide (hn.step (.cells zA 23))
  have HU := hide (hu.step (.cells zA 23))
  have hl2 := Nat.le_trans (lf_len l) hl
  have K1 := hide (fun W h1 h2 => who19 q l W h1 h2 hq hl)
  have K2 := hide (fun W h => end24 q (lf l) W h hl2)
  clear hu hn hl
  cases hwho : whoF (wd l) with
  | none =>
    rw [hwho] at K1
    rw [show hangR l = none by unfold hangR; rw [hwho]; rfl]
    clear hwho
    go_enter Tryd.func17, Tryd.ntmps17
    go_wp2_with (go_at_call 19; refine (unhide K1 _ (unhide HU) (unhide HN)).mono ?_; rintro e w1 ⟨rfl, hl1⟩)
    exact ⟨rfl, rfl, ((unhide HP).step hl1).lone⟩
  | some k =>
    rw [hwho] at K1
    by_cases ht : tr (lf l) = []
    · rw [show hangR l = some ⟨3, k, [], false, false⟩ by unfold hangR; rw [hwho]; simp only [Option.bind]; rw [if_pos ht]]
      rw [if_pos ht] at K2
      clear hwho ht
      go_enter Tryd.func17, Tryd.ntmps17
      go_wp2_with (go_at_call 19; refine (unhide K1 _ (unhide HU) (unhide HN)).mono ?_; rintro e w1 ⟨rfl, hu1, hl1⟩; have HP1 := hide (((unhide HP).step hl1).alloc (.cells #[.int .i64 3, .int .i64 k, .string ⟨#[]⟩, .bool false, .bool false] 23)); have HU1 := hide (hu1.step (.cells #[.int .i64 3, .int .i64 k, .string ⟨#[]⟩, .bool false, .bool false] 23)); have HQ0 := hide hu1.lt; have CB := hide (heap_alloc_new w1 (.cells #[.int .i64 3, .int .i64 k, .string ⟨#[]⟩, .bool false, .bool false] 23)); clear hu1 hl1 K1)
      have HQ : Hid (w1.heap.size ≠ q) := hide (by have := (unhide HQ0); omega)
      go_wp2_with (first | (go_at_call 24; refine (unhide K2 _ (unhide HU1)).mono ?_; rintro e w2 ⟨rfl, hu2, hl2⟩; have C2 := hide (row_lone (unhide CB) hl2 (unhide HQ)); have HP2 := hide ((unhide HP1).step hl2); clear K2 hu2 hl2) | (with_reducible change wpList _ _ _ ({ dst := some 9, op := Op.load 23 _, type := _, pos := _, after := _, guard := _ } :: _) _ _; refine wpList_load_row rfl 23 _ rfl w1.heap.size rfl 23 _ _ _ (unhide C2) Tryd.underlying23 rfl (by kernel_rfl) ?_) | (with_reducible change wpList _ _ _ ({ dst := none, op := Op.store 23 (Operand.tmp 2) _, type := _, pos := _, after := _, guard := _ } :: _) _ _; refine wpList_store_row rfl 23 _ _ rfl w.heap.size #[.int .i64 3, .int .i64 k, .string ⟨#[]⟩, .bool false, .bool false] rfl rfl 23 zA (unhide HP2).row (by kernel_rfl) rfl (by kernel_rfl) ?_))
      refine bodyPost_ret (v := atV ⟨3, k, [], false, false⟩) ?_ rfl ?_
      · exact results_cell_row rfl _ _ w.heap.size 23 _ (0, 0) _ rfl ((unhide HP2).got _) Tryd.underlying23 rfl (by kernel_rfl)
      exact ⟨rfl, (unhide HP2).done _⟩
    · rw [show hangR l = none by unfold hangR; rw [hwho]; simp only [Option.bind]; rw [if_neg ht]]
      rw [if_neg ht] at K2
      clear hwho ht
      go_enter Tryd.func17, Tryd.ntmps17
      go_wp2_with (go_at_call 19; refine (unhide K1 _ (unhide HU) (unhide HN)).mono ?_; rintro e w1 ⟨rfl, hu1, hl1⟩; have HP1 := hide (((unhide HP).step hl1).alloc (.cells #[.int .i64 3, .int .i64 k, .string ⟨#[]⟩, .bool false, .bool false] 23)); have HU1 := hide (hu1.step (.cells #[.int .i64 3, .int .i64 k, .string ⟨#[]⟩, .bool false, .bool false] 23)); clear hu1 hl1 K1)
      go_wp2_with (go_at_call 24; refine (unhide K2 _ (unhide HU1)).mono ?_; rintro e w2 ⟨rfl, hl2⟩; clear K2)
      exact ⟨rfl, rfl, ((unhide HP1).step hl2).lone⟩
end Go.Proofs.YtbkcgkffafjbgaaDoor
