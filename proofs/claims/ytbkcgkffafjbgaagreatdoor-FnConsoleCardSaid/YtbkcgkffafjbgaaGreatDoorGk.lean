/- What a console tells of a code. -/
import Derived.Test.YtbkcgkffafjbgaaGreatDoorGi
import Derived.Test.YtbkcgkffafjbgaaGreatDoorTkm
import Derived.Test.YtbkcgkffafjbgaaGreatDoorRdo
import Derived.Test.YtbkcgkffafjbgaaGreatDoorBld
import Derived.Test.YtbkcgkffafjbgaaGreatDoorGg
import Derived.OrdersHeld
/- What a console tells to its lines, as functions on lists; no program in it. -/
namespace Go.Proofs.YtbkcgkffafjbgaaGreatDoor
set_option linter.unusedVariables false
def digB (n : Nat) : By := [UInt8.ofNat (48 + n)]
def hearsB : By := [104, 101, 97, 114, 115]
def queueB : By := [113, 117, 101, 117, 101]
def errB : By := [101, 114, 114, 111, 114]
def cws : List By := [[111, 107], [98, 97, 100], [108, 111, 110, 103], [102, 111, 114, 109], [114, 97, 110, 103, 101], [110, 111, 110, 101], [109, 97, 110, 121], [102, 117, 108, 108], [115, 117, 109], [116, 119, 105, 99, 101], [115, 101, 97, 108, 101, 100], [114, 111, 111, 116], [114, 101, 112, 108, 97, 121], [108, 97, 116, 101], [109, 105, 115, 115, 105, 110, 103], [97, 98, 111, 114, 116, 101, 100], [115, 105, 108, 101, 110, 116], [113, 117, 101, 117, 101], [97, 103, 97, 105, 110], [122, 101, 114, 111]]
def codeB (c : Int) : By := cws.getD c.toNat []
/-- what one hears -/
def toldL (who : UInt8) (t : ByteArray) : By := [who] ++ [32] ++ hearsB ++ [32] ++ t.data.toList ++ [10]
def toldOne (who : UInt8) (ts : List ByteArray) : By := (ts.map (toldL who)).flatten
/-- what both hear anew -/
def toldF (z z' : Tw) : By := toldOne 97 (z'.x.i.drop z.x.i.length) ++ toldOne 98 (z'.y.i.drop z.y.i.length)
def taOf (a : At) : Ta := ⟨a.k, a.w, bs a.t, a.la, a.lb⟩
/-- an act: its code, how both stand then, what they hear -/
def doC (z : Tw) (l : By) : Int × Tw × By :=
  match actR l with
  | none => (3, z, [])
  | some a => if (stepF z (taOf a)).2 = 0 then (0, (stepF z (taOf a)).1, toldF z (stepF z (taOf a)).1) else ((stepF z (taOf a)).2, z, [])
def doneB (c : Int) : By := if c = 0 then codeB 0 ++ [10] else errB ++ [32] ++ codeB c ++ [10]
def queB (z : Tw) : By := digB z.x.q.length ++ [32] ++ digB z.y.q.length ++ [10]
def lineF (z : Tw) (l : By) : Tw × By :=
  if wd l = [] ∨ (wd l).head? = some 35 then (z, [])
  else if wd l = queueB ∧ wd (rs l) = [] then (z, queB z)
  else ((doC z l).2.1, (doC z l).2.2 ++ doneB (doC z l).1)
def conF : List By → Tw → By → Tw × By
  | [], z, out => (z, out)
  | l :: ls, z, out => conF ls (lineF z l).1 (out ++ (lineF z l).2)
theorem conF_append : ∀ (xs ys : List By) (z : Tw) (out : By), conF (xs ++ ys) z out = conF ys (conF xs z out).1 (conF xs z out).2
  | [], _, _, _ => rfl
  | a :: xs, ys, z, out => by simp only [List.cons_append, conF]; exact conF_append xs ys _ _
theorem conF_snoc (xs : List By) (a : By) (z : Tw) (out : By) : conF (xs ++ [a]) z out = ((lineF (conF xs z out).1 a).1, (conF xs z out).2 ++ (lineF (conF xs z out).1 a).2) := by
  rw [conF_append]; rfl
/-- both stand as some acts leave them -/
def Ok2 (z : Tw) : Prop := ∃ S T, Both S T z
theorem ok2_zero : Ok2 ⟨pe0, pe0⟩ := ⟨_, _, both_zero⟩
theorem Ok2.step {z : Tw} (h : Ok2 z) (a : Ta) : Ok2 (stepF z a).1 := by
  obtain ⟨S, T, h⟩ := h
  exact ⟨_, _, h.step a⟩
structure Pb (p : Pe) : Prop where
  ok : peOK p = true
  q : p.q.length ≤ 8
  i : p.i.length ≤ 100
  s : 0 ≤ p.s ∧ p.s ≤ 101
  e : 0 ≤ p.e ∧ p.e ≤ 100
  all : ∀ t ∈ p.i, t.size ≤ 40
theorem Ok2.pb {z : Tw} (h : Ok2 z) : Pb z.x ∧ Pb z.y := by
  obtain ⟨S, T, h⟩ := h
  have k : ∀ {S T : List ByteArray} {p r : Pe}, Way S p r → Way T r p → Pb p := fun {S T p r} a b => by
    have := a.s0
    have := a.len
    have := a.room
    have := b.len
    have hr := b.room
    refine ⟨way_ok a b, a.q8, hr, ⟨a.s0, ?_⟩, ⟨by omega, by omega⟩, fun t ht => ?_⟩
    · rcases a.sub with ⟨e, _⟩ | ⟨_, _, _, _, _, e, _⟩ <;> omega
    · have := List.all_eq_true.1 b.all t (b.heard.subset ht)
      simpa [is40] using this
  exact ⟨k h.a h.b, k h.b h.a⟩
theorem step_no {z : Tw} {a : Ta} (h : (stepF z a).2 ≠ 0) : (stepF z a).1 = z := by
  unfold stepF at h ⊢
  split at h
  · next h1 =>
    rw [if_pos h1]
    split at h
    · next h2 =>
      rw [if_pos h2]
      have := say_no h
      simp only [this]
      unfold Tw.put Tw.at
      split <;> rfl
    · next h2 => rw [if_neg h2]
  · next h1 =>
    rw [if_neg h1]
    split at h
    · exact absurd rfl h
    · next h2 =>
      rw [if_neg h2]
      split at h
      · next h3 =>
        rw [if_pos h3]
        split at h
        · next h4 =>
          rw [if_pos h4]
          split at h
          · next h5 => rw [if_pos h5]
          · exact absurd rfl h
        · next h4 => rw [if_neg h4]
      · next h3 => rw [if_neg h3]
theorem take_len (p : Pe) (f : Fr) : p.i.length ≤ (inF p f).i.length := by
  unfold inF
  rw [(ackF_i _ _).1]
  unfold takeF
  split <;> simp
theorem say_i (p : Pe) (t : ByteArray) : (sayF p t).1.i = p.i := by
  unfold sayF
  split
  · rfl
  · split <;> rfl
theorem step_len (z : Tw) (a : Ta) : z.x.i.length ≤ (stepF z a).1.x.i.length ∧ z.y.i.length ≤ (stepF z a).1.y.i.length := by
  unfold stepF
  split
  · split
    · unfold Tw.put Tw.at
      split
      · exact ⟨by rw [say_i]; exact Nat.le_refl _, Nat.le_refl _⟩
      · exact ⟨Nat.le_refl _, by rw [say_i]; exact Nat.le_refl _⟩
    · exact ⟨Nat.le_refl _, Nat.le_refl _⟩
  · split
    · unfold rndF
      refine ⟨?_, ?_⟩
      · dsimp only; split
        · exact Nat.le_refl _
        · exact take_len _ _
      · dsimp only; split
        · exact Nat.le_refl _
        · exact take_len _ _
    · split
      · split
        · split
          · exact ⟨Nat.le_refl _, Nat.le_refl _⟩
          · unfold Tw.put Tw.at
            split <;> exact ⟨Nat.le_refl _, Nat.le_refl _⟩
        · exact ⟨Nat.le_refl _, Nat.le_refl _⟩
      · exact ⟨Nat.le_refl _, Nat.le_refl _⟩
theorem step_code (z : Tw) (a : Ta) : 0 ≤ (stepF z a).2 ∧ (stepF z a).2 < 20 := by
  unfold stepF sayF
  repeat' split
  all_goals (dsimp only; omega)
theorem told_len (who : UInt8) : ∀ (ts : List ByteArray), (∀ t ∈ ts, t.size ≤ 40) → (toldOne who ts).length ≤ ts.length * 49
  | [], _ => by simp [toldOne]
  | t :: ts, h => by
    have := told_len who ts (fun x hx => h x (by simp [hx]))
    have h0 := h t (by simp)
    unfold toldOne at this ⊢
    simp only [List.map_cons, List.flatten_cons, List.length_append, List.length_cons]
    have : (toldL who t).length = 9 + t.size := by
      unfold toldL hearsB
      simp only [List.length_append, List.length_cons, List.length_nil, Array.length_toList]
      show 1 + 1 + 5 + 1 + t.size + 1 = _
      omega
    omega
theorem toldF_len {z z' : Tw} (h : Ok2 z') : (toldF z z').length ≤ 9800 := by
  obtain ⟨hx, hy⟩ := h.pb
  unfold toldF
  have h1 := told_len 97 (z'.x.i.drop z.x.i.length) (fun t ht => hx.all t (List.mem_of_mem_drop ht))
  have h2 := told_len 98 (z'.y.i.drop z.y.i.length) (fun t ht => hy.all t (List.mem_of_mem_drop ht))
  have h3 := hx.i
  have h4 := hy.i
  simp only [List.length_append, List.length_drop] at h1 h2 ⊢
  omega
theorem codeB_len (c : Int) : (codeB c).length ≤ 10 := by
  unfold codeB
  have : ∀ l ∈ cws, l.length ≤ 10 := by decide
  rw [List.getD_eq_getElem?_getD]
  cases h : cws[c.toNat]? with
  | none => simp
  | some l => simpa using this l (List.mem_of_getElem? h)
theorem doneB_len (c : Int) : (doneB c).length ≤ 20 := by
  have := codeB_len c
  have := codeB_len 0
  unfold doneB errB
  split <;> simp only [List.length_append, List.length_cons, List.length_nil] <;> omega
theorem doC_ok {z : Tw} (h : Ok2 z) (l : By) : Ok2 (doC z l).2.1 ∧ (doC z l).2.2.length ≤ 9800 ∧ 0 ≤ (doC z l).1 ∧ (doC z l).1 < 20 := by
  unfold doC
  split
  · exact ⟨h, by simp, by dsimp only; omega, by dsimp only; omega⟩
  · next a _ =>
    split
    · exact ⟨h.step _, toldF_len (h.step _), by dsimp only; omega, by dsimp only; omega⟩
    · exact ⟨h, by simp, (step_code z (taOf a)).1, (step_code z (taOf a)).2⟩
theorem lineF_ok {z : Tw} (h : Ok2 z) (l : By) : Ok2 (lineF z l).1 ∧ (lineF z l).2.length ≤ 10000 := by
  unfold lineF
  split
  · exact ⟨h, by simp⟩
  · split
    · exact ⟨h, by simp [queB, digB]⟩
    · obtain ⟨h1, h2, _⟩ := doC_ok h l
      have := doneB_len (doC z l).1
      exact ⟨h1, by simp only [List.length_append]; omega⟩
theorem conF_ok : ∀ (ls : List By) {z : Tw} (out : By), Ok2 z → Ok2 (conF ls z out).1 ∧ (conF ls z out).2.length ≤ out.length + ls.length * 10000
  | [], z, out, h => ⟨h, by simp [conF]⟩
  | l :: ls, z, out, h => by
    obtain ⟨h1, h2⟩ := lineF_ok h l
    obtain ⟨h3, h4⟩ := conF_ok ls (out ++ (lineF z l).2) h1
    refine ⟨h3, ?_⟩
    simp only [conF, List.length_append, List.length_cons] at h4 ⊢
    omega
/-- a console's answer -/
def linesF (ls : List By) : By := (conF ls ⟨pe0, pe0⟩ []).2
theorem tb_len (l : By) : (tb l).length ≤ l.length := by
  unfold tb
  rw [List.length_reverse]
  exact Nat.le_trans (List.dropWhile_sublist _).length_le (by simp)
theorem tb_tr (l : By) : tb (tr l) = tr l := by
  rw [← tb_tl l, tb_tb]
theorem tr_nil_all {t : By} (h : tr t = []) : ∀ b ∈ t, bla b = true := by
  rcases tl_split t with h1 | ⟨b, r, h1, h2⟩
  · exact h1
  · exfalso
    have h3 := wd_nil (tr_nil.1 h)
    rw [h1] at h3
    cases h3
theorem queue_iff (l : By) : tr l = queueB ↔ wd l = queueB ∧ wd (rs l) = [] := by
  constructor
  · intro h
    have h1 : wd l = queueB := by rw [← wd_of_tr l, h]; decide
    rcases tr_shape l with ⟨_, h2⟩ | ⟨t, h2, _⟩
    · exact ⟨h1, tr_nil.1 h2⟩
    · exfalso
      rw [h, h1] at h2
      have : queueB.length = (queueB ++ 32 :: t).length := congrArg _ h2
      simp at this
  · rintro ⟨h1, h2⟩
    have h2 := tr_nil.2 h2
    rcases tr_shape l with ⟨h3, _⟩ | ⟨t, h3, h4⟩
    · rw [h3, h1]
    · exfalso
      rw [h2] at h4
      have h5 := tb_tr l
      rw [h3, tb_append_all (l := wd l) (r := 32 :: t) (fun b hb => by
        rcases List.mem_cons.1 hb with rfl | hb
        · rfl
        · exact tr_nil_all h4 b hb)] at h5
      have h6 := tb_len (wd l)
      rw [h5] at h6
      simp at h6
      omega
theorem head_iff (l : By) : (tr l).head? = (wd l).head? := by
  rcases tr_shape l with ⟨h3, _⟩ | ⟨t, h3, h4⟩
  · rw [h3]
  · rw [h3]
    cases hw : wd l with
    | nil =>
      have := tr_nil.2 hw
      rw [h3, hw] at this
      cases this
    | cons a r => rfl
end Go.Proofs.YtbkcgkffafjbgaaGreatDoor
/- A console: both who talk, and what has been told so far; one row that is told. -/
namespace Go.Proofs.YtbkcgkffafjbgaaGreatDoor
open Go.RowKit
set_option maxHeartbeats 4000000
set_option maxRecDepth 20000
set_option linter.unusedVariables false
/-- every block is kept, but the console's, the one of both who talk, and such as hold bytes -/
structure Kc (B c g : Nat) (W W' : World) : Prop where
  os : W'.os = W.os
  tape : W'.tape = W.tape
  output : W'.output = W.output
  size : W.heap.size ≤ W'.heap.size
  same : ∀ k, k < W.heap.size → k ≠ c → k ≠ g → (k < B ∨ ∀ cs fr, W.heap[k]? ≠ some (.cells cs 5 fr)) → W'.heap[k]? = W.heap[k]?
theorem Kc.refl (B c g : Nat) (W : World) : Kc B c g W W := ⟨rfl, rfl, rfl, Nat.le_refl _, fun _ _ _ _ _ => rfl⟩
theorem Kc.trans {B c g : Nat} {U V W : World} (h : Kc B c g U V) (k : Kc B c g V W) : Kc B c g U W :=
  ⟨k.os.trans h.os, k.tape.trans h.tape, k.output.trans h.output, Nat.le_trans h.size k.size, fun i hi hc hg hn => by
    have e := h.same i hi hc hg hn
    rw [k.same i (Nat.lt_of_lt_of_le hi h.size) hc hg (hn.imp id fun hn => by rw [e]; exact hn), e]⟩
theorem Kb.kc {B c g : Nat} {U V : World} (h : Kb B c U V) : Kc B c g U V := ⟨h.os, h.tape, h.output, h.size, fun k hk hc _ hn => h.same k hk hc hn⟩
theorem Kc.of_below {B c g : Nat} {U V : World} (h : Below U.heap.size U V) : Kc B c g U V := (Kb.of_below h).kc
theorem Kc.of_lone {B c g : Nat} {U V : World} (h : Lone g U V) : Kc B c g U V := ⟨h.os, h.tape, h.output, h.size, fun k hk _ hg _ => h.block k hk hg⟩
theorem Kc.row {B c g k t : Nat} {cs : Array Value} {fr : Nat × Nat} {U V : World} (h : Kc B c g U V) (hr : U.heap[k]? = some (.cells cs t fr)) (ht : t ≠ 5) (hc : k ≠ c) (hg : k ≠ g) : V.heap[k]? = some (.cells cs t fr) :=
  (h.same k (Array.getElem?_eq_some_iff.1 hr).1 hc hg (Or.inr fun cs' fr' e => ht (by rw [hr] at e; injection e with e; injection e))).trans hr
theorem Kc.low {B c g k : Nat} {o : Obj} {U V : World} (h : Kc B c g U V) (hr : U.heap[k]? = some o) (hB : k < B) (hc : k ≠ c) (hg : k ≠ g) : V.heap[k]? = some o :=
  (h.same k (Array.getElem?_eq_some_iff.1 hr).1 hc hg (Or.inl hB)).trans hr
theorem Kc.below {B D c g : Nat} {X U V : World} (h : Kc B c g U V) (hx : Below D X U) (h1 : D ≤ c) (h2 : D ≤ g) (h3 : D ≤ B) (h4 : D ≤ U.heap.size) : Below D X V :=
  ⟨h.os.trans hx.os, h.tape.trans hx.tape, h.output.trans hx.output, Nat.le_trans hx.size h.size, fun k hk => (h.same k (by omega) (by omega) (by omega) (Or.inl (by omega))).trans (hx.block k hk)⟩
theorem ownG.kb {lo hi base c : Nat} {W X : World} {v : Value} {ts : List ByteArray} (h : ownG lo hi W v ts) (hk : Kb base c W X) (hlo : base ≤ lo) (hc : c < base) : ownG lo hi X v ts := by
  obtain ⟨rfl, rfl⟩ | ⟨g, off, cap, cs, rfl, hg, hh, hr, hcp, hi⟩ := h
  · exact Or.inl ⟨rfl, rfl⟩
  · exact Or.inr ⟨g, off, cap, cs, rfl, hg, hh, (hk.same g (Array.getElem?_eq_some_iff.1 hr).1 (by omega) (Or.inr fun cs' fr' e => by rw [hr] at e; simp at e)).trans hr, hcp, hi⟩
theorem peO.kb {lo hi base c : Nat} {W X : World} {v : Value} {p : Pe} (h : peO lo hi W v p) (hk : Kb base c W X) (hlo : base ≤ lo) (hc : c < base) : peO lo hi X v p := by
  obtain ⟨q, i, e, h1, h2, h3⟩ := h
  exact ⟨q, i, e, h1.kb hk hlo hc, h2.kb hk hlo hc, h3⟩
theorem row8.kb {base c g : Nat} {W X : World} {a0 a1 a2 a3 a4 a5 a6 a7 : Value} {rest : List Value} (h : row8 W g a0 a1 a2 a3 a4 a5 a6 a7 rest) (hk : Kb base c W X) (hg : g ≠ c) : row8 X g a0 a1 a2 a3 a4 a5 a6 a7 rest :=
  (hk.same g h.lt hg (Or.inr fun cs' fr' e => by unfold row8 at h; rw [h] at e; simp at e)).trans h
theorem TwO.kb {base g c : Nat} {z : Tw} {W X : World} (h : TwO base g z W) (hk : Kb base c W X) (hc : c < base) (hg : g ≠ c) : TwO base g z X := by
  obtain ⟨q0, i0, q1, i1, lo0, hi0, lo1, hi1, hr, hx, hy, h1, h2, h3, h4, h5, h6⟩ := h
  have := hk.size
  exact ⟨q0, i0, q1, i1, lo0, hi0, lo1, hi1, hr.kb hk hg, hx.kb hk h2 hc, hy.kb hk h3 hc, h1, h2, h3, by omega, by omega, h6⟩
theorem bldO.lone {base c g q : Nat} {l : List Value} {W X : World} (h : bldO base c g l W) (hl : Lone q W X) (hq : q ≠ c) (hb : ∀ cs fr, W.heap[q]? ≠ some (.cells cs 5 fr)) : bldO base c g l X := by
  obtain ⟨p, v, h1, h2, h3⟩ := h
  refine ⟨p, v, (hl.block c h1.lt (fun e => hq e.symm)).trans h1, h2, h3.kept (row := some q) ⟨hl.os, hl.tape, hl.output, hl.size, fun k hk hne => hl.block k hk (fun e => hne (by rw [e]))⟩ (Or.inr fun e => ?_)⟩
  obtain ⟨_, cs, fr, hc⟩ := owns_not h3 q e
  exact hb cs fr hc
theorem bldO.below {base c g : Nat} {l : List Value} {W X : World} (h : bldO base c g l W) (hl : Below W.heap.size W X) : bldO base c g l X := by
  obtain ⟨p, v, h1, h2, h3⟩ := h
  exact ⟨p, v, (hl.block c h1.lt).trans h1, h2, h3.kept (row := none) ⟨hl.os, hl.tape, hl.output, hl.size, fun k hk _ => hl.block k hk⟩ (by cases v.ownBlock <;> simp)⟩
/-- the words of the codes, in their block -/
def Cw (w : World) : Prop := ∃ t fr, w.heap[0]? = some (.cells (cws.map fun l => Value.string (bs l)).toArray t fr)
/-- both tables -/
def Gl (w : World) : Prop := Nm w ∧ Cw w
theorem Gl.below {w w' : World} (h : Gl w) (hb : Below w.heap.size w w') : Gl w' := by
  obtain ⟨h1, t, fr, e⟩ := h
  exact ⟨h1.below hb, t, fr, (hb.block 0 (Array.getElem?_eq_some_iff.1 e).1).trans e⟩
theorem Gl.kc {B c g : Nat} {w w' : World} (h : Gl w) (hk : Kc B c g w w') (hB : 1 < B) (hc : 1 < c) (hg : 1 < g) : Gl w' := by
  obtain ⟨⟨t1, fr1, e1⟩, t, fr, e⟩ := h
  exact ⟨⟨t1, fr1, hk.low e1 hB (by omega) (by omega)⟩, t, fr, hk.low e (by omega) (by omega) (by omega)⟩
/-- a console in block c: both who talk in block g, and these bytes told -/
structure Con (base c g : Nat) (z : Tw) (l : List UInt8) (W : World) : Prop where
  bld : bldO base c g (Lib.byteCells l) W
  two : TwO base g z W
  low : c < base
  far : g ≠ c
  sz : base ≤ W.heap.size
  glo : Gl W
  gc : 1 < c
  gg : 1 < g
  nz : l = [] → ∃ p, conB c g p (.slice none 0 0) W
theorem TwO.row_not {base g : Nat} {z : Tw} {W : World} (h : TwO base g z W) : ∀ cs fr, W.heap[g]? ≠ some (.cells cs 5 fr) := by
  obtain ⟨q0, i0, q1, i1, lo0, hi0, lo1, hi1, hr, _⟩ := h
  intro cs fr e
  unfold row8 at hr
  rw [hr] at e
  simp at e
theorem Con.below {base c g : Nat} {z : Tw} {l : List UInt8} {W X : World} (h : Con base c g z l W) (hb : Below W.heap.size W X) : Con base c g z l X :=
  ⟨h.bld.below hb, h.two.below hb, h.low, h.far, Nat.le_trans h.sz hb.size, h.glo.below hb, h.gc, h.gg, fun e => (h.nz e).imp fun p k => (hb.block c (conB.lt k)).trans k⟩
theorem Con.c0 {base c g : Nat} {z : Tw} {l : List UInt8} {W : World} (h : Con base c g z l W) : W.cell? ⟨c, 0, none⟩ = some (.slice (some ⟨g, 0, none⟩) 2 2) := by
  obtain ⟨p, v, h1, _⟩ := h.bld
  exact h1.c0
theorem Con.ltc {base c g : Nat} {z : Tw} {l : List UInt8} {W : World} (h : Con base c g z l W) : c < W.heap.size := Nat.lt_of_lt_of_le h.low h.sz
theorem Con.ltg {base c g : Nat} {z : Tw} {l : List UInt8} {W : World} (h : Con base c g z l W) : g < base := by
  obtain ⟨q0, i0, q1, i1, lo0, hi0, lo1, hi1, hr, hx, hy, h1, _⟩ := h.two
  exact h1
/-- both talk on: what was told stays -/
theorem Con.talked {base c g : Nat} {z z' : Tw} {l : List UInt8} {W X : World} (h : Con base c g z l W) (hl : Lone g W X) (ht : TwO base g z' X) : Con base c g z' l X :=
  ⟨h.bld.lone hl h.far h.two.row_not, ht, h.low, h.far, Nat.le_trans h.sz hl.size, h.glo.kc (Kc.of_lone (B := base) (c := c) hl) (Nat.lt_trans h.gc h.low) h.gc h.gg, h.gc, h.gg, fun e => (h.nz e).imp fun p k => (hl.block c (conB.lt k) (fun e => h.far e.symm)).trans k⟩
def joinB (xs : List ByteArray) : List UInt8 := Lib.join (xs.map (·.data.toList)) [32]
theorem byte_append (a b : List UInt8) : Lib.byteCells (a ++ b) = Lib.byteCells a ++ Lib.byteCells b := by unfold Lib.byteCells; simp
theorem strCells_of (l : List UInt8) : Lib.strCells ⟨l.toArray⟩ = Lib.byteCells l := by
  unfold Lib.strCells Lib.byteCells
  simp
theorem tell57 (base c g : Nat) (z : Tw) (l : List UInt8) (xs : List ByteArray) (bk cap : Nat) (w : World) (h : Con base c g z l w) (hx : ∀ (j : Nat) x, xs[j]? = some x → w.cell? ⟨bk, 0 + j, none⟩ = some (.string x))
    (hbk : bk < w.heap.size) (hn : xs.length ≤ 3) (hcap : xs.length ≤ cap) (hj : (joinB xs).length ≤ 1048576) (hl : l.length ≤ 1073741824) :
    Calls Tryz.prog 57 #[.pointer (some ⟨c, 0, none⟩), .slice (some ⟨bk, 0, none⟩) xs.length cap] w fun e w' => e = .returned (.tuple #[]) ∧ Con base c g z (l ++ (joinB xs ++ [10])) w' ∧ Kb base c w w' := by
  have KJ := hide (fun W (a : Below w.heap.size w W) => strings_Join bk 0 cap xs ⟨#[32]⟩ W (fun j x e => by
    have := hx j x e
    have lt := World.block_lt_of_cell? w _ this
    rw [World.cell?_of_block (a.block _ lt)]; exact this) (Nat.lt_of_lt_of_le hbk a.size) (by omega) hcap (by unfold joinB at hj; show (Lib.join _ [32]).length ≤ _; omega))
  have HJ : Hid ((joinB xs).length ≤ 1048576) := hide hj
  have HH := hide h
  have HL := hide hl
  generalize hJ : (⟨(Lib.join (xs.map (·.data.toList)) (ByteArray.mk #[32]).data.toList).toArray⟩ : ByteArray) = J at *
  have eJ : J ++ ⟨#[10]⟩ = ⟨(joinB xs ++ [10]).toArray⟩ := by
    rw [← hJ]
    apply ByteArray.ext
    simp [joinB]
  have HE := hide eJ
  have HZ : Hid (J.size ≤ 1048576) := hide (by rw [← hJ]; show (List.toArray _).size ≤ _; simpa [joinB] using hj)
  have KW := hide (fun W (a : Con base c g z l W) => write77 base c g (Lib.byteCells l) (J ++ ⟨#[10]⟩) W a.bld (by
    have e : (J ++ ⟨#[10]⟩ : ByteArray).size = (joinB xs).length + 1 := by rw [eJ]; show (List.toArray _).size = _; simp
    rw [e, Lib.byteCells_length]; omega) a.sz)
  clear h hx hbk hn hcap hj hl hJ eJ
  generalize xs.length = n at *
  go_enter Tryz.func57, Tryz.ntmps57
  go_wp2_with fail
  refine wp_region_held (S := fun _ => True) (by kernel_rfl) ?_
  have hS0 : Below w.heap.size w { w with drawn := w.drawn + 1 } := below_drewN (Below.refl _ _) 1
  obtain ⟨w2, hw2⟩ : ∃ x, x = ({ w with drawn := w.drawn + 1 } : World) := ⟨_, rfl⟩
  rw [← hw2] at hS0 ⊢
  clear hw2
  refine wpAnyH_take (i := 0) (oi := { dst := some 4, op := Op.move (Operand.tmp 0), type := 66, pos := "l16_console.go:123", after := #[], guard := none }) (v := ?_) rfl (by kernel_rfl) (by kernel_rfl) (by kernel_rfl) (fun _ _ _ h => h) (Or.inl ⟨by rfl, ?_⟩) trivial ?_
  rotate_left
  · intro W hSw
    go_simp
    try with_reducible rfl
  simp only [Act.put, List.setIfInBounds_toArray, List.set_cons_zero, List.set_cons_succ]
  refine wpAnyH_take (i := 1) (oi := { dst := some 5, op := Op.nilCheck (Operand.tmp 4), type := 0, pos := "l16_console.go:123", after := #[{ on := 0, ground := Ground.data }], guard := none }) (v := ?_) rfl (by kernel_rfl) (by kernel_rfl) (by kernel_rfl) (fun _ _ _ h => h) (Or.inl ⟨by rfl, ?_⟩) trivial ?_
  rotate_left
  · intro W hSw
    go_simp
    try with_reducible rfl
  simp only [Act.put, List.setIfInBounds_toArray, List.set_cons_zero, List.set_cons_succ]
  refine wpAnyH_take (i := 2) (oi := { dst := some 6, op := Op.fieldAddr 47 (Operand.tmp 5) 1, type := 0, pos := "l16_console.go:123", after := #[{ on := 1, ground := Ground.data }], guard := none }) (v := ?_) rfl (by kernel_rfl) (by kernel_rfl) (by kernel_rfl) (fun _ _ _ h => h) (Or.inl ⟨by rfl, ?_⟩) trivial ?_
  rotate_left
  · intro W hSw
    go_simp
    try with_reducible rfl
  simp only [Act.put, List.setIfInBounds_toArray, List.set_cons_zero, List.set_cons_succ]
  refine wpAnyH_take (i := 3) (oi := { dst := some 7, op := Op.move (Operand.tmp 1), type := 23, pos := "l16_console.go:123", after := #[], guard := none }) (v := ?_) rfl (by kernel_rfl) (by kernel_rfl) (by kernel_rfl) (fun _ _ _ h => h) (Or.inl ⟨by rfl, ?_⟩) trivial ?_
  rotate_left
  · intro W hSw
    go_simp
    try with_reducible rfl
  simp only [Act.put, List.setIfInBounds_toArray, List.set_cons_zero, List.set_cons_succ]
  refine wpAnyH_one (i := 4) (by kernel_rfl) ?_
  refine wpOp_step (o := { dst := some 8, op := Op.call { callee := Callee.value (Operand.func 78), args := #[Operand.tmp 7, Operand.const (Value.string { data := #[32] })], argTypes := #[23, 9] }, type := 9, pos := "l16_console.go:123", after := #[{ on := 3, ground := Ground.data }], guard := none }) rfl fun K' hK => step_enterW (by rfl) 78 #[.slice (some ⟨bk, 0, none⟩) n cap, .string ⟨#[32]⟩] (by go_simp) ?_
  refine (unhide KJ _ hS0).mono ?_
  rintro e w3 ⟨rfl, b3⟩
  have s3 := bl_st b3 hS0

  refine ⟨_, rfl, hK _ _ ⟨trivial, ?_⟩⟩
  simp only [Act.put, List.setIfInBounds_toArray, List.set_cons_zero, List.set_cons_succ]
  have jz := unhide HZ
  refine wpAnyH_take (i := 5) (oi := { dst := some 9, op := Op.binOp BinOp.add 9 (Operand.tmp 8) (Operand.const (Value.string { data := #[10] })) 9, type := 9, pos := "l16_console.go:123", after := #[{ on := 4, ground := Ground.data }], guard := none }) (v := ?_) rfl (by kernel_rfl) (by kernel_rfl) (by kernel_rfl) (fun _ _ _ h => h) (Or.inl ⟨by rfl, ?_⟩) trivial ?_
  rotate_left
  · intro W hSw
    go_simp
    rw [if_neg (by omega)]
  simp only [Act.put, List.setIfInBounds_toArray, List.set_cons_zero, List.set_cons_succ]
  refine wpAnyH_one (i := 6) (by kernel_rfl) ?_
  refine wpOp_step (o := { dst := some 10, op := Op.call { callee := Callee.value (Operand.func 77), args := #[Operand.tmp 6, Operand.tmp 9], argTypes := #[45, 9] }, type := 110, pos := "l16_console.go:123", after := #[{ on := 2, ground := Ground.data }, { on := 5, ground := Ground.data }, { on := 4, ground := Ground.chain }], guard := none }) rfl fun K' hK => step_enterW (by rfl) 77 #[selfP c, .string (J ++ ⟨#[10]⟩)] (by go_simp) ?_
  refine (unhide KW _ ((unhide HH).below s3)).mono ?_
  rintro e w4 ⟨rfl, b4, k4⟩
  have C3 := (unhide HH).below s3
  have R4 := And.intro (show Con base c g z (l ++ (joinB xs ++ [10])) w4 from ⟨by rw [byte_append, ← strCells_of (joinB xs ++ [10]), ← unhide HE]; exact b4, C3.two.kb k4 C3.low C3.far, C3.low, C3.far, Nat.le_trans C3.sz k4.size, C3.glo.kc (g := g) k4.kc (Nat.lt_trans C3.gc C3.low) C3.gc C3.gg, C3.gc, C3.gg, fun e => by simp at e⟩) (show Kb base c w w4 from (Kb.of_below s3).trans k4)
  have HR := hide R4
  clear R4 C3 b4 k4

  refine ⟨_, rfl, hK _ _ ⟨trivial, ?_⟩⟩
  simp only [Act.put, List.setIfInBounds_toArray, List.set_cons_zero, List.set_cons_succ]
  refine wpAnyH_done (by kernel_rfl) ?_ _
  go_wp2
  go_end0
  exact ⟨rfl, unhide HR⟩
end Go.Proofs.YtbkcgkffafjbgaaGreatDoor
/- What a console tells of a code. -/
namespace Go.Proofs.YtbkcgkffafjbgaaGreatDoor
open Go.RowKit
set_option maxHeartbeats 4000000
set_option maxRecDepth 20000
set_option linter.unusedVariables false
theorem cw_at {w : World} (h : Cw w) (k : Nat) (hk : k < 20) : w.cell? ⟨0, k, none⟩ = some (.string (bs (codeB k))) := by
  obtain ⟨t, fr, e⟩ := h
  unfold World.cell?
  rw [e]
  have hl : cws.length = 20 := rfl
  have : cws[k]? = some (codeB k) := by
    unfold codeB
    rw [List.getD_eq_getElem?_getD]
    have hk' : (k : Int).toNat = k := rfl
    rw [hk', List.getElem?_eq_getElem (by omega)]
    rfl
  simp only [List.getElem?_toArray, List.getElem?_map, this]
  rfl
theorem word59 (k : Nat) (w : World) (h : Cw w) (hk : k < 20) : Calls Tryz.prog 59 #[.int .i64 k] w fun e w' => e = .returned (.string (bs (codeB k))) ∧ w' = w := by
  have c := cw_at h k hk
  have q0 : ((k : Int) < 0) = False := by simp
  have q1 : ((20 : Int) ≤ (k : Int)) = False := by simp; omega
  have q2 : (k : Int) < 20 := by omega
  clear h
  generalize bs (codeB k) = x at *
  go_enter Tryz.func59, Tryz.ntmps59
  go_wp2
  go_ret
  exact ⟨rfl, rfl⟩
/-- a row of words, new -/
theorem tellA (base c g : Nat) (z : Tw) (l : List UInt8) (xs : List ByteArray) (w : World) (h : Con base c g z l w) (hn : xs.length ≤ 3) (hj : (joinB xs).length ≤ 1048576) (hl : l.length ≤ 1073741824) :
    Calls Tryz.prog 57 #[.pointer (some ⟨c, 0, none⟩), .slice (some ⟨w.heap.size, 0, none⟩) xs.length xs.length] (w.alloc (.cells (xs.map Value.string).toArray 9)) fun e w' => e = .returned (.tuple #[]) ∧ Con base c g z (l ++ (joinB xs ++ [10])) w' ∧ Kb base c w w' := by
  have b : Below w.heap.size w (w.alloc (.cells (xs.map Value.string).toArray 9)) := bl_al (Below.refl _ _)
  refine (tell57 base c g z l xs w.heap.size xs.length _ (h.below b) (fun j x e => ?_) (by simp) hn (Nat.le_refl _) hj hl).mono ?_
  · rw [row_cell (heap_alloc_new w _), Nat.zero_add, List.getElem?_toArray, List.getElem?_map, e]
    rfl
  · rintro e w' ⟨rfl, h1, h2⟩
    exact ⟨rfl, h1, (Kb.of_below b).trans h2⟩
theorem done36 (base c g : Nat) (z : Tw) (l : List UInt8) (k : Nat) (w : World) (h : Con base c g z l w) (hk : k < 20) (hl : l.length ≤ 1073741824) :
    Calls Tryz.prog 36 #[.pointer (some ⟨c, 0, none⟩), .int .i64 k] w fun e w' => e = .returned (.tuple #[]) ∧ Con base c g z (l ++ doneB k) w' ∧ Kb base c w w' := by
  have K := word59 k w h.glo.2 hk
  have hc := codeB_len k
  by_cases h0 : k = 0
  · subst h0
    have T := tellA base c g z l [bs (codeB 0)] w h (by simp) (by simp [joinB, Lib.join, bs_list]; exact Nat.le_trans hc (by decide)) hl
    rw [show doneB ((0 : Nat) : Int) = joinB [bs (codeB 0)] ++ [10] by simp [doneB, joinB, Lib.join, bs_list]]
    have HT := hide T
    clear T h hk hl hc
    simp only [List.map_cons, List.map_nil, List.length_cons, List.length_nil] at HT
    have e0 : (bs (codeB ((0 : Nat) : Int))) = bs (codeB 0) := rfl
    rw [e0] at K
    generalize bs (codeB 0) = x at *
    go_enter Tryz.func36, Tryz.ntmps36
    go_wp2_with (first | (go_at_call 59; refine K.mono ?_; rintro e w' ⟨rfl, rfl⟩) | (go_at_call 57; refine (unhide HT).mono ?_; rintro e w' ⟨rfl, R⟩; have HR := hide R; clear R))
    go_end0
    exact ⟨rfl, unhide HR⟩
  · have T := tellA base c g z l [bs errB, bs (codeB k)] w h (by simp) (by simp [joinB, Lib.join, bs_list, errB, List.intercalate]; omega) hl
    have hd : doneB (k : Int) = joinB [bs errB, bs (codeB k)] ++ [10] := by
      unfold doneB
      rw [if_neg (by omega)]
      simp [joinB, Lib.join, bs_list, List.intercalate]
    rw [hd]
    have k0 : ((k : Int) == 0) = false := by simp; omega
    have HT := hide T
    clear T h hk hl hc h0 hd
    simp only [List.map_cons, List.map_nil, List.length_cons, List.length_nil] at HT
    have ee : bs errB = ⟨#[101, 114, 114, 111, 114]⟩ := rfl
    rw [ee] at HT ⊢
    generalize bs (codeB k) = x at *
    go_enter Tryz.func36, Tryz.ntmps36
    go_wp2_with (first | (go_at_call 59; refine K.mono ?_; rintro e w' ⟨rfl, rfl⟩) | (go_at_call 57; refine (unhide HT).mono ?_; rintro e w' ⟨rfl, R⟩; have HR := hide R; clear R))
    refine bodyPost_ret (results_none rfl _ _ _) rfl ?_
    exact ⟨rfl, unhide HR⟩
end Go.Proofs.YtbkcgkffafjbgaaGreatDoor
