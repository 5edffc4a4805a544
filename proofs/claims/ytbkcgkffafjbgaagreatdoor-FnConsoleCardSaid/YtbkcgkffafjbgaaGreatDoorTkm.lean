/- Two who talk, as functions on lists; no program in it. -/
import Derived.WalkKit
namespace Go.Proofs.YtbkcgkffafjbgaaGreatDoor
/-- one who talks -/
structure Pe where
  q : List ByteArray
  s : Int
  e : Int
  i : List ByteArray
/-- what is sent -/
structure Fr where
  s : Int
  a : Int
  h : Bool
  b : ByteArray
/-- an act of two -/
structure Ta where
  k : Int
  w : Int
  t : ByteArray
  la : Bool
  lb : Bool
def is40 (t : ByteArray) : Bool := decide (t.size ≤ 40)
def peOK (p : Pe) : Bool :=
  decide (p.q.length ≤ 8) && decide (p.i.length ≤ 100) && (decide (0 ≤ p.s) && decide (p.s ≤ 65535)) && (decide (0 ≤ p.e) && decide (p.e ≤ 65535)) && p.q.all is40 && p.i.all is40
def pe0 : Pe := ⟨[], 0, 0, []⟩
def sayF (p : Pe) (t : ByteArray) : Pe × Int :=
  if 40 < t.size then (p, 4) else if p.q.length = 8 then (p, 17) else (⟨p.q ++ [t], p.s, p.e, p.i⟩, 0)
def outF (p : Pe) : Fr := ⟨p.s, p.e, decide (0 < p.q.length), p.q.getD 0 ⟨#[]⟩⟩
/-- what is expected goes into the inbox -/
def takeF (p : Pe) (f : Fr) : Pe :=
  if f.h = true ∧ f.s = p.e ∧ p.i.length < 100 ∧ p.e < 65535 then ⟨p.q, p.s, p.e + 1, p.i ++ [f.b]⟩ else p
/-- what was acknowledged leaves the queue -/
def ackF (p : Pe) (f : Fr) : Pe :=
  if f.a = p.s + 1 ∧ 0 < p.q.length then ⟨p.q.tail, p.s + 1, p.e, p.i⟩ else p
def inF (p : Pe) (f : Fr) : Pe := ackF (takeF p f) f
/-- two who talk -/
structure Tw where
  x : Pe
  y : Pe
def Tw.at (z : Tw) (w : Int) : Pe := if w = 0 then z.x else z.y
def Tw.put (z : Tw) (w : Int) (p : Pe) : Tw := if w = 0 then ⟨p, z.y⟩ else ⟨z.x, p⟩
def rndF (z : Tw) (la lb : Bool) : Tw :=
  ⟨if lb = true then z.x else inF z.x (outF z.y), if la = true then z.y else inF z.y (outF z.x)⟩
def okW (w : Int) : Bool := decide (0 ≤ w) && decide (w ≤ 1)
def stepF (z : Tw) (a : Ta) : Tw × Int :=
  if a.k = 1 then (if okW a.w = true then (z.put a.w (sayF (z.at a.w) a.t).1, (sayF (z.at a.w) a.t).2) else (z, 4))
  else if a.k = 2 then (rndF z a.la a.lb, 0)
  else if a.k = 3 then (if okW a.w = true then (if (z.at a.w).q.length = 0 then (z, 5) else (z.put a.w ⟨(z.at a.w).q.take 1, (z.at a.w).s, (z.at a.w).e, (z.at a.w).i⟩, 0)) else (z, 4))
  else (z, 3)
def runF : List Ta → Tw → Tw
  | [], z => z
  | a :: as, z => runF as (stepF z a).1
def codesF : List Ta → Tw → List Int
  | [], _ => []
  | a :: as, z => (stepF z a).2 :: codesF as (stepF z a).1
/-- what one of them has said -/
def saidF (who : Int) : List Ta → Tw → List ByteArray
  | [], _ => []
  | a :: as, z => (if a.k = 1 ∧ a.w = who ∧ (stepF z a).2 = 0 then [a.t] else []) ++ saidF who as (stepF z a).1
/-- one way: what is said by p, and heard by r -/
structure Way (S : List ByteArray) (p r : Pe) : Prop where
  s0 : 0 ≤ p.s
  len : r.e = (r.i.length : Int)
  sub : (p.s = r.e ∧ (r.i ++ p.q).Sublist S) ∨ (∃ h t I, p.q = h :: t ∧ r.i = I ++ [h] ∧ p.s + 1 = r.e ∧ (r.i ++ t).Sublist S)
  room : r.i.length ≤ 100
  q8 : p.q.length ≤ 8
  all : S.all is40 = true
theorem way_zero : Way [] pe0 pe0 :=
  ⟨by decide, rfl, .inl ⟨rfl, List.Sublist.refl _⟩, by decide, by decide, rfl⟩
theorem Way.heard {S : List ByteArray} {p r : Pe} (h : Way S p r) : r.i.Sublist S := by
  rcases h.sub with ⟨_, g⟩ | ⟨_, _, _, _, _, _, g⟩
  · exact (List.sublist_append_left _ _).trans g
  · exact (List.sublist_append_left _ _).trans g
theorem Way.queue {S : List ByteArray} {p r : Pe} (h : Way S p r) : p.q.Sublist S := by
  rcases h.sub with ⟨_, g⟩ | ⟨a, t, I, hq, hi, _, g⟩
  · exact (List.sublist_append_right _ _).trans g
  · rw [hq]
    rw [hi, List.append_assoc] at g
    exact (List.sublist_append_right _ _).trans g
theorem all_sub {S T : List ByteArray} (h : S.Sublist T) (g : T.all is40 = true) : S.all is40 = true := by
  rw [List.all_eq_true] at g ⊢
  exact fun x hx => g x (h.subset hx)
theorem way_ok {S T : List ByteArray} {p r : Pe} (h : Way S p r) (g : Way T r p) : peOK p = true := by
  have h1 := all_sub h.queue h.all
  have h2 := all_sub g.heard g.all
  have := h.s0
  have := g.len
  have := g.room
  have hs : p.s ≤ 65535 := by
    have := h.len
    have := h.room
    rcases h.sub with ⟨e, _⟩ | ⟨_, _, _, _, _, e, _⟩ <;> omega
  unfold peOK
  rw [h1, h2, decide_eq_true h.q8, decide_eq_true g.room, decide_eq_true h.s0, decide_eq_true hs, decide_eq_true (by omega : 0 ≤ p.e), decide_eq_true (by omega : p.e ≤ 65535)]
  rfl
/-- the way keeps, where only the other halves of the two turn -/
theorem Way.half {S : List ByteArray} {p r p' r' : Pe} (h : Way S p r) (e1 : p'.q = p.q) (e2 : p'.s = p.s) (e3 : r'.e = r.e) (e4 : r'.i = r.i) : Way S p' r' :=
  ⟨by rw [e2]; exact h.s0, by rw [e3, e4]; exact h.len, by rw [e1, e2, e3, e4]; exact h.sub, by rw [e4]; exact h.room, by rw [e1]; exact h.q8, h.all⟩
theorem Way.say {S : List ByteArray} {p r : Pe} (h : Way S p r) (t : ByteArray) (ht : t.size ≤ 40) (hq : p.q.length ≠ 8) : Way (S ++ [t]) ⟨p.q ++ [t], p.s, p.e, p.i⟩ r := by
  refine ⟨h.s0, h.len, ?_, h.room, by have := h.q8; simp; omega, by rw [List.all_append, h.all]; simp [is40, ht]⟩
  rcases h.sub with ⟨e, g⟩ | ⟨a, u, I, hq, hi, e, g⟩
  · exact .inl ⟨e, by dsimp only; rw [← List.append_assoc]; exact g.append (List.Sublist.refl _)⟩
  · exact .inr ⟨a, u ++ [t], I, by dsimp only; rw [hq]; rfl, hi, e, by rw [← List.append_assoc]; exact g.append (List.Sublist.refl _)⟩
theorem Way.hang {S : List ByteArray} {p r : Pe} (h : Way S p r) : Way S ⟨p.q.take 1, p.s, p.e, p.i⟩ r := by
  refine ⟨h.s0, h.len, ?_, h.room, by simp; omega, h.all⟩
  rcases h.sub with ⟨e, g⟩ | ⟨a, u, I, hq, hi, e, g⟩
  · exact .inl ⟨e, ((List.Sublist.refl _).append (List.take_sublist _ _)).trans g⟩
  · exact .inr ⟨a, [], I, by dsimp only; rw [hq]; rfl, hi, e, ((List.Sublist.refl _).append (List.nil_sublist _)).trans g⟩
/-- r takes what p sent -/
theorem Way.take {S : List ByteArray} {p r : Pe} (h : Way S p r) : Way S p (takeF r (outF p)) := by
  unfold takeF outF
  split
  · next c =>
    obtain ⟨c1, c2, c3, c4⟩ := c
    dsimp only at c1 c2
    have c1 := of_decide_eq_true c1
    refine ⟨h.s0, by dsimp only; rw [h.len]; simp, ?_, by simp; omega, h.q8, h.all⟩
    rcases h.sub with ⟨e, g⟩ | ⟨a, u, I, hq, hi, e, g⟩
    · obtain ⟨a, u, hq⟩ : ∃ a u, p.q = a :: u := by
        cases hc : p.q with
        | nil => rw [hc] at c1; simp at c1
        | cons a u => exact ⟨a, u, rfl⟩
      refine .inr ⟨a, u, r.i, hq, ?_, by dsimp only; omega, ?_⟩
      · rw [hq]; rfl
      · rw [hq] at g ⊢
        dsimp only [List.getD_cons_zero]
        rw [List.append_assoc]
        exact g
    · omega
  · exact h
/-- p takes what r had sent: r is as it was then, r' as it is now -/
theorem Way.ack {S : List ByteArray} {p r r' : Pe} (h : Way S p r') (c : r'.e = r.e ∧ r'.i = r.i ∨ r.e = p.s) : Way S (ackF p (outF r)) r' := by
  unfold ackF outF
  split
  · next k =>
    obtain ⟨k1, k2⟩ := k
    dsimp only at k1
    rcases c with ⟨c1, c2⟩ | c
    · refine ⟨by have := h.s0; dsimp only; omega, h.len, ?_, h.room, by have := h.q8; simp; omega, h.all⟩
      rcases h.sub with ⟨e, _⟩ | ⟨a, u, I, hq, hi, e, w⟩
      · omega
      · exact .inl ⟨by dsimp only; omega, by dsimp only; rw [hq]; exact w⟩
    · omega
  · exact h
theorem takeF_q (p : Pe) (f : Fr) : (takeF p f).q = p.q ∧ (takeF p f).s = p.s := by unfold takeF; split <;> exact ⟨rfl, rfl⟩
theorem ackF_i (p : Pe) (f : Fr) : (ackF p f).i = p.i ∧ (ackF p f).e = p.e := by unfold ackF; split <;> exact ⟨rfl, rfl⟩
theorem ackF_q {p p' : Pe} (f : Fr) (h1 : p'.q = p.q) (h2 : p'.s = p.s) : (ackF p' f).q = (ackF p f).q ∧ (ackF p' f).s = (ackF p f).s := by
  unfold ackF; rw [h1, h2]; split <;> exact ⟨by first | exact h1 | rfl, by first | exact h2 | rfl⟩
/-- a round, one way -/
theorem Way.round {S : List ByteArray} {p r : Pe} (h : Way S p r) (la lb : Bool) (p' r' : Pe) (hp : p' = if lb = true then p else inF p (outF r)) (hr : r' = if la = true then r else inF r (outF p)) : Way S p' r' := by
  have a1 : Way S p (if la = true then r else takeF r (outF p)) := by
    cases la
    · exact h.take
    · exact h
  have cc : (if la = true then r else takeF r (outF p)).e = r.e ∧ (if la = true then r else takeF r (outF p)).i = r.i ∨ r.e = p.s := by
    cases la
    · show (takeF r (outF p)).e = r.e ∧ (takeF r (outF p)).i = r.i ∨ r.e = p.s
      unfold takeF outF
      split
      · next c => exact .inr c.2.1.symm
      · exact .inl ⟨rfl, rfl⟩
    · exact .inl ⟨rfl, rfl⟩
  have a2 : Way S (if lb = true then p else ackF p (outF r)) (if la = true then r else takeF r (outF p)) := by
    cases lb
    · exact a1.ack cc
    · exact a1
  refine a2.half ?_ ?_ ?_ ?_
  · rw [hp]; cases lb
    · exact (ackF_q (outF r) (takeF_q p (outF r)).1 (takeF_q p (outF r)).2).1
    · rfl
  · rw [hp]; cases lb
    · exact (ackF_q (outF r) (takeF_q p (outF r)).1 (takeF_q p (outF r)).2).2
    · rfl
  · rw [hr]; cases la
    · exact (ackF_i _ _).2
    · rfl
  · rw [hr]; cases la
    · exact (ackF_i _ _).1
    · rfl
/-- both ways -/
structure Both (S T : List ByteArray) (z : Tw) : Prop where
  a : Way S z.x z.y
  b : Way T z.y z.x
theorem say_ok {p : Pe} {t : ByteArray} (h : (sayF p t).2 = 0) : t.size ≤ 40 ∧ p.q.length ≠ 8 ∧ (sayF p t).1 = ⟨p.q ++ [t], p.s, p.e, p.i⟩ := by
  unfold sayF at h ⊢
  split at h
  · cases h
  · next h1 =>
    split at h
    · cases h
    · next h2 => rw [if_neg h1, if_neg h2]; exact ⟨by omega, h2, rfl⟩
theorem say_no {p : Pe} {t : ByteArray} (h : (sayF p t).2 ≠ 0) : (sayF p t).1 = p := by
  unfold sayF at h ⊢
  split
  · rfl
  · split
    · rfl
    · next h1 h2 => rw [if_neg h1, if_neg h2] at h; exact absurd rfl h
theorem okW_cases {w : Int} (h : okW w = true) : w = 0 ∨ w = 1 := by
  unfold okW at h; simp at h; omega
def saysF (who : Int) (z : Tw) (a : Ta) : List ByteArray := if a.k = 1 ∧ a.w = who ∧ (stepF z a).2 = 0 then [a.t] else []
theorem Both.step {S T : List ByteArray} {z : Tw} (h : Both S T z) (a : Ta) : Both (S ++ saysF 0 z a) (T ++ saysF 1 z a) (stepF z a).1 := by
  obtain ⟨ha, hb⟩ := h
  obtain ⟨k, w, t, la, lb⟩ := a
  by_cases k1 : k = 1
  · subst k1
    cases ow : okW w
    · have e : stepF z ⟨1, w, t, la, lb⟩ = (z, 4) := by unfold stepF; simp [ow]
      unfold saysF
      rw [e]
      simpa using (⟨ha, hb⟩ : Both S T z)
    · have e : stepF z ⟨1, w, t, la, lb⟩ = (z.put w (sayF (z.at w) t).1, (sayF (z.at w) t).2) := by unfold stepF; simp [ow]
      unfold saysF
      rw [e]
      by_cases hc : (sayF (z.at w) t).2 = 0
      · obtain ⟨h1, h2, h3⟩ := say_ok hc
        dsimp only
        rw [hc, h3]
        rcases okW_cases ow with rfl | rfl
        · simp only [Tw.at, Tw.put, if_true] at h2 ⊢
          exact ⟨by simpa using ha.say t h1 h2, by have g := hb.half (p' := z.y) (r' := ⟨z.x.q ++ [t], z.x.s, z.x.e, z.x.i⟩) rfl rfl rfl rfl; simpa using g⟩
        · simp only [Tw.at, Tw.put] at h2 ⊢
          exact ⟨by have g := ha.half (p' := z.x) (r' := ⟨z.y.q ++ [t], z.y.s, z.y.e, z.y.i⟩) rfl rfl rfl rfl; simpa using g, by simpa using hb.say t h1 (by simpa using h2)⟩
      · dsimp only
        rw [say_no hc]
        have : z.put w (z.at w) = z := by unfold Tw.put Tw.at; split <;> rfl
        rw [this]
        simpa [hc] using (⟨ha, hb⟩ : Both S T z)
  · have e1 : ∀ who, saysF who z ⟨k, w, t, la, lb⟩ = [] := fun who => by unfold saysF; rw [if_neg (by simp [k1])]
    rw [e1, e1, List.append_nil, List.append_nil]
    by_cases k2 : k = 2
    · have e : stepF z ⟨k, w, t, la, lb⟩ = (rndF z la lb, 0) := by unfold stepF; simp [k2]
      rw [e]
      exact ⟨ha.round la lb _ _ rfl rfl, hb.round lb la _ _ rfl rfl⟩
    by_cases k3 : k = 3
    · cases ow : okW w
      · have e : stepF z ⟨k, w, t, la, lb⟩ = (z, 4) := by unfold stepF; simp [k3, ow]
        rw [e]
        exact ⟨ha, hb⟩
      · by_cases hq : (z.at w).q.length = 0
        · have e : stepF z ⟨k, w, t, la, lb⟩ = (z, 5) := by unfold stepF; rw [if_neg k1, if_neg k2, if_pos k3, if_pos ow, if_pos hq]
          rw [e]
          exact ⟨ha, hb⟩
        · have e : stepF z ⟨k, w, t, la, lb⟩ = (z.put w ⟨(z.at w).q.take 1, (z.at w).s, (z.at w).e, (z.at w).i⟩, 0) := by unfold stepF; rw [if_neg k1, if_neg k2, if_pos k3, if_pos ow, if_neg hq]
          rw [e]
          rcases okW_cases ow with rfl | rfl
          · exact ⟨ha.hang, hb.half rfl rfl rfl rfl⟩
          · exact ⟨ha.half rfl rfl rfl rfl, hb.hang⟩
    · have e : stepF z ⟨k, w, t, la, lb⟩ = (z, 3) := by unfold stepF; rw [if_neg k1, if_neg k2, if_neg k3]
      rw [e]
      exact ⟨ha, hb⟩
theorem Both.run : ∀ (as : List Ta) {S T : List ByteArray} {z : Tw}, Both S T z → Both (S ++ saidF 0 as z) (T ++ saidF 1 as z) (runF as z)
  | [], S, T, z, h => by simpa [saidF, runF] using h
  | a :: as, S, T, z, h => by
    have := Both.run as (h.step a)
    rw [List.append_assoc, List.append_assoc] at this
    exact this
theorem both_zero : Both [] [] ⟨pe0, pe0⟩ := ⟨way_zero, way_zero⟩
theorem both_all (as : List Ta) : Both (saidF 0 as ⟨pe0, pe0⟩) (saidF 1 as ⟨pe0, pe0⟩) (runF as ⟨pe0, pe0⟩) := by
  simpa using Both.run as both_zero
/-- the search for what was heard among what was said: it ends well where the one is a sublist of the other -/
def seekF : List ByteArray → List ByteArray → Bool
  | [], _ => true
  | _ :: _, [] => false
  | h :: hs, s :: ss => if s = h then seekF hs ss else seekF (h :: hs) ss
theorem seek_sub : ∀ {hs ss : List ByteArray}, hs.Sublist ss → seekF hs ss = true
  | [], _, _ => by unfold seekF; rfl
  | h :: hs, [], g => by cases g
  | h :: hs, s :: ss, g => by
    unfold seekF
    split
    · next e =>
      cases g with
      | cons _ g => exact seek_sub ((List.sublist_cons_self _ _).trans g)
      | cons_cons _ g => exact seek_sub g
    · next e =>
      cases g with
      | cons _ g => exact seek_sub g
      | cons_cons _ g => exact absurd rfl e
def dTxt (i who : Nat) : ByteArray := ⟨#[UInt8.ofNat (97 + i), UInt8.ofNat (48 + who)]⟩
/-- n texts said by the one, m by the other, then rounds in which nothing is lost -/
def dActs (n m : Nat) : List Ta :=
  (List.range n).map (fun i => ⟨1, 0, dTxt i 0, false, false⟩) ++ (List.range m).map (fun i => ⟨1, 1, dTxt i 1, false, false⟩) ++ List.replicate 17 ⟨2, 0, ⟨#[]⟩, false, false⟩
def dlv (n m : Nat) : Bool :=
  decide ((runF (dActs n m) ⟨pe0, pe0⟩).x.q.length = 0) && decide ((runF (dActs n m) ⟨pe0, pe0⟩).y.q.length = 0) && decide ((runF (dActs n m) ⟨pe0, pe0⟩).y.i = (List.range n).map fun i => dTxt i 0) && decide ((runF (dActs n m) ⟨pe0, pe0⟩).x.i.length = m)
theorem dlv_all : ∀ n m : Fin 9, dlv n.1 m.1 = true := by decide +kernel
end Go.Proofs.YtbkcgkffafjbgaaGreatDoor
