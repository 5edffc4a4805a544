/- NoisePair: both sides. -/
import Derived.Test.YtafjodaeckiedaaNok
import Derived.Laws.ResultCell
namespace Go.Proofs.Ytafjodaeckiedaa
open Go.RowKit
set_option maxHeartbeats 4000000
set_option maxRecDepth 20000
theorem results_cell_two {fn : Func} {p u z : Tmp} {ty : TypeId} (h : fn.results = #[.cell p ty, .tmp u, .tmp z]) (tmps : Array Value) (P : Program) (w : World) :
    (results fn tmps).run P w = ((asAddr (tmps.getD p undef)).run P w).andThen fun a w₁ => ((loadVar ty a).run P w₁).andThen fun v w₂ => .ok (.tuple #[v, tmps.getD u undef, tmps.getD z undef]) w₂ := by
  simp only [results, h]
  simp [Sem.run_bind, Result.andThen]
theorem results_two_row {P : Program} {fn : Func} {p u z : Tmp} {ty : TypeId} (h : fn.results = #[.cell p ty, .tmp u, .tmp z]) (tmps : Array Value) (w : World) (g : Nat) (t : TypeId) (cs : Array Value) (fr : Nat × Nat) (d : TypeDesc) (x y : Value)
    (hp : tmps.getD p undef = .pointer (some ⟨g, 0, none⟩)) (hx : tmps.getD u undef = x) (hy : tmps.getD z undef = y) (hg : w.heap[g]? = some (.cells cs t fr))
    (hu : P.underlying ty = some d) (hd : (match d with | .struct _ | .array _ _ => true | _ => false) = true) (hi : (P.info? ty).map (·.size) = some cs.size) :
    (results fn tmps).run P w = .ok (.tuple #[.agg cs, x, y]) w := by
  rw [results_cell_two h, hp, hx, hy]
  simp [asAddr, run_loadVar_row w g t ty cs fr d hg hu hd hi]
abbrev qV (r : Int × Int × Int × Int) : Value := .tuple #[.agg #[.int .i64 r.1, .int .i64 r.2.1], .int .i64 r.2.2.1, .int .i64 r.2.2.2]
def pzR (m : Int) : Option (List Int × Int) → Int × Int × Int × Int
  | some ([g, h, p, q], k) => (clampN m g h, clampN m p q, k, 0)
  | _ => (0, 0, 0, 14)
def paiR (xs : List Int) (m a b : Int) : Int × Int × Int × Int := if nCode xs m a b = 0 then pzR m (cF (65536 - 65536 % b) a b 4 xs 0) else (0, 0, 0, nCode xs m a b)
theorem paiR_code {xs : List Int} {m a b c : Int} (h : nCode xs m a b = c) (hc : c ≠ 0) : paiR xs m a b = (0, 0, 0, c) := by
  unfold paiR; rw [h, if_neg hc]
theorem paiR_ok {xs : List Int} {m a b : Int} (h : nCode xs m a b = 0) : paiR xs m a b = pzR m (cF (65536 - 65536 % b) a b 4 xs 0) := by
  unfold paiR; rw [if_pos h]
theorem nCode_long {xs : List Int} {m a b : Int} (h : 4096 < xs.length) : nCode xs m a b = 2 := by
  unfold nCode gCode; rw [if_pos h, if_neg (by omega)]
theorem nCode_drop {xs : List Int} {m a b : Int} (h : nCode xs m a b = 0) (n : Nat) : nCode (xs.drop n) m a b = 0 := by
  unfold nCode at h ⊢
  rcases gCode_cases xs a b with ⟨h1, hg, _⟩ | ⟨h1, hb, hg, _⟩ | ⟨h1, hb, hr, hg, _⟩ | ⟨h1, hb, hr, hg, _⟩
  · rw [hg, if_neg (by omega)] at h; cases h
  · rw [hg, if_neg (by omega)] at h; cases h
  · rw [hg, if_neg (by omega)] at h; cases h
  · have e : gCode (xs.drop n) a b = 0 := by
      unfold gCode; rw [if_neg (by rw [List.length_drop]; omega), wOK_drop hb n, if_pos rfl, hr, if_pos rfl]
    rw [hg, if_pos rfl] at h
    rw [e, if_pos rfl, h]
theorem size32 : (Try.prog.info? 32).map (·.size) = some 2 := by kernel_rfl
theorem pai20 (v : Value) (xs : List Int) (m a b : Int) (w : World) (hv : intsC w v xs) (hn : xs.length ≤ 1048576) :
    Calls Try.prog 20 #[v, .int .i64 m, .int .i64 a, .int .i64 b] w fun e w' => e = .returned (qV (paiR xs m a b)) ∧ Below w.heap.size w w' := by
  have HV := hide hv
  have HN := hide hn
  have K1 := hide (fun W (hW : intsC W v xs) => noi18 v xs m a b W hW hn)
  obtain ⟨A, cap, rfl, _⟩ := hv.2
  have n0 : (0 : Int) ≤ (xs.length : Int) := by omega
  have n1 : (xs.length : Int) ≤ 1048576 := by omega
  clear hv hn
  by_cases h1 : 4096 < xs.length
  · have HE := hide (paiR_code (nCode_long (m := m) (a := a) (b := b) h1) (by omega))
    have q : (4096 : Int) < (xs.length : Int) := by omega
    clear h1 K1
    go_enter Try.func20, Try.ntmps20
    go_wp2
    refine bodyPost_ret (v := qV (0, 0, 0, 2)) (results_two_row rfl _ _ w.heap.size 32 _ (0, 0) _ _ _ rfl rfl rfl (heap_at _ _ _ rfl) Try.underlying32 rfl size32) rfl ?_
    exact ⟨by rw [unhide HE], bl_al (Below.refl _ _)⟩
  have q : (xs.length : Int) ≤ 4096 := by omega
  clear h1
  by_cases hc : nCode xs m a b = 0
  · have hno := noiR_ok hc
    have hpa := paiR_ok hc
    rcases cF_four (top := 65536 - 65536 % b) (a := a) (b := b) xs with ⟨e2, e4⟩ | ⟨g, h, n, e2, hnl, hrest⟩
    · have HE : Hid (paiR xs m a b = (0, 0, 0, 14)) := hide (by rw [hpa, e4]; rfl)
      rw [hno, e2] at K1
      clear hno hpa e2 e4 hc
      go_enter Try.func20, Try.ntmps20
      go_wp2_with fail
      refine (unhide K1 _ ((unhide HV).below (bl_al (Below.refl _ _)))).mono ?_
      rintro e w1 ⟨rfl, rfl⟩
      clear K1
      go_wp2
      refine bodyPost_ret (v := qV (0, 0, 0, 14)) (results_two_row rfl _ _ w.heap.size 32 _ (0, 0) _ _ _ rfl rfl rfl (heap_at _ _ _ rfl) Try.underlying32 rfl size32) rfl ?_
      exact ⟨by rw [unhide HE], bl_al (Below.refl _ _)⟩
    · have K1' : Hid (∀ W, intsC W (.slice A xs.length cap) xs → Calls Try.prog 18 #[.slice A xs.length cap, .int .i64 m, .int .i64 a, .int .i64 b] W fun e w' => e = .returned (tV (clampN m g h, (n : Int), 0)) ∧ w' = W) := by rw [hno, e2] at K1; exact K1
      obtain ⟨A', hs, hi⟩ := cut_ints (unhide HV) n hnl
      have K2 := hide (fun W (hW : intsC W (.slice A' (xs.length - n) (cap - n)) (xs.drop n)) => noi18 _ (xs.drop n) m a b W hW (by rw [List.length_drop]; have := unhide HN; omega))
      have hno2 := noiR_ok (nCode_drop hc n)
      have HI := hide hi
      have k0 : (0 : Int) ≤ (n : Int) := by omega
      have k1 : (n : Int) ≤ 4096 := by omega
      have HS := hide hs
      clear K1 hno hs hi
      rcases hrest with ⟨e2', e4⟩ | ⟨p, r, k, e2', hkl, e4⟩
      · have HE : Hid (paiR xs m a b = (0, 0, 0, 14)) := hide (by rw [hpa, e4]; rfl)
        rw [hno2, e2'] at K2
        clear hno2 hpa e2 e2' e4 hc
        go_enter Try.func20, Try.ntmps20
        go_wp2_with fail
        refine (unhide K1' _ ((unhide HV).below (bl_al (Below.refl _ _)))).mono ?_
        rintro e w1 ⟨rfl, rfl⟩
        clear K1'
        have s1 := unhide HS (w.alloc (Obj.cells #[Value.int IntKind.i64 0, Value.int IntKind.i64 0] 32))
        go_wp2_with fail
        refine (unhide K2 _ ((unhide HI).below (bl_al (Below.refl _ _)))).mono ?_
        rintro e w1 ⟨rfl, rfl⟩
        clear K2 s1
        go_wp2
        refine bodyPost_ret (v := qV (0, 0, 0, 14)) (results_two_row rfl _ _ w.heap.size 32 _ (0, 0) _ _ _ rfl rfl rfl (heap_at _ _ _ rfl) Try.underlying32 rfl size32) rfl ?_
        exact ⟨by rw [unhide HE], bl_al (Below.refl _ _)⟩
      · have HE : Hid (paiR xs m a b = (clampN m g h, clampN m p r, (n : Int) + k, 0)) := hide (by rw [hpa, e4]; rfl)
        have K2' : Hid (∀ W, intsC W (.slice A' (xs.length - n) (cap - n)) (xs.drop n) → Calls Try.prog 18 #[.slice A' (xs.length - n) (cap - n), .int .i64 m, .int .i64 a, .int .i64 b] W fun e w' => e = .returned (tV (clampN m p r, (k : Int), 0)) ∧ w' = W) := by rw [hno2, e2'] at K2; exact K2
        have k2 : (0 : Int) ≤ (k : Int) := by omega
        have k3 : (k : Int) ≤ 4096 := by rw [List.length_drop] at hkl; omega
        clear hno2 hpa e2 e2' e4 hc hkl K2
        obtain ⟨c1, hc1⟩ : ∃ c1, c1 = clampN m g h := ⟨_, rfl⟩
        obtain ⟨c2, hc2⟩ : ∃ c2, c2 = clampN m p r := ⟨_, rfl⟩
        rw [← hc1] at K1' HE
        rw [← hc2] at K2' HE
        clear hc1 hc2
        go_enter Try.func20, Try.ntmps20
        go_wp2_with fail
        refine (unhide K1' _ ((unhide HV).below (bl_al (Below.refl _ _)))).mono ?_
        rintro e w1 ⟨rfl, rfl⟩
        clear K1'
        have s1 := unhide HS (w.alloc (Obj.cells #[Value.int IntKind.i64 0, Value.int IntKind.i64 0] 32))
        go_wp2_with fail
        refine (unhide K2' _ ((unhide HI).below (bl_al (Below.refl _ _)))).mono ?_
        rintro e w1 ⟨rfl, rfl⟩
        clear K2' s1
        go_wp2
        refine bodyPost_ret (v := qV (c1, c2, (n : Int) + k, 0)) (results_two_row rfl _ _ w.heap.size 32 _ (0, 0) _ _ _ rfl rfl rfl (heap_at _ _ _ rfl) Try.underlying32 rfl size32) rfl ?_
        exact ⟨by rw [unhide HE], bl_al (Below.refl _ _)⟩
  · have HE := hide (paiR_code rfl hc)
    rw [noiR_code rfl hc] at K1
    have h3 : (nCode xs m a b != 0) = true := by simpa using hc
    generalize nCode xs m a b = c at *
    clear hc
    go_enter Try.func20, Try.ntmps20
    go_wp2_with fail
    refine (unhide K1 _ ((unhide HV).below (bl_al (Below.refl _ _)))).mono ?_
    rintro e w1 ⟨rfl, rfl⟩
    clear K1
    go_wp2
    refine bodyPost_ret (v := qV (0, 0, 0, c)) (results_two_row rfl _ _ w.heap.size 32 _ (0, 0) _ _ _ rfl rfl rfl (heap_at _ _ _ rfl) Try.underlying32 rfl size32) rfl ?_
    exact ⟨by rw [unhide HE], bl_al (Below.refl _ _)⟩
end Go.Proofs.Ytafjodaeckiedaa
