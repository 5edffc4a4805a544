/- The law FnDelivers. -/
import Derived.Test.YthonnlifgdnacaaTrp
import Derived.Test.YthonnlifgdnacaaTap
import Derived.Test.YthonnlifgdnacaaAt
namespace Go.Proofs.Ythonnlifgdnacaa
open Go.RowKit
set_option maxHeartbeats 4000000
set_option maxRecDepth 20000
set_option linter.unusedVariables false
theorem two_at (X : World) (b : Nat) (x y : Int) (h : X.heap[b]? = some (.cells #[.int .u8 x, .int .u8 y] 5 (0, 0))) : (convert 22 9 (.slice (some ⟨b, 0, none⟩) 2 2)).run Try.prog X = .ok (.string (strOfNums [x, y])) X :=
  own_str (base := 0) (n := 2) (xs := [x, y]) ⟨rfl, .inr ⟨b, 2, #[.int .u8 x, .int .u8 y], rfl, Nat.zero_le _, h, Nat.le_refl _, by unfold maxLen; omega, rfl, rfl⟩⟩ rfl
def sayL (who i : Nat) : List Ta := (List.range i).map fun k => ⟨1, who, dTxt k who, false, false⟩
theorem sayL_snoc (who i : Nat) : sayL who (i + 1) = sayL who i ++ [⟨1, who, dTxt i who, false, false⟩] := by unfold sayL; rw [List.range_succ, List.map_append]; rfl
/-- acts ahead of the rounds, as far as they were made -/
def preL (nn mm j : Nat) : List Ta := if j = 0 then [] else if j = 1 then sayL 0 nn else sayL 0 nn ++ sayL 1 mm
theorem two_txt0 {i : Nat} {x : Int} (hx : (97 : Int) + (i : Int) = x) : strOfNums [x, 48] = dTxt i 0 := by
  subst hx
  unfold strOfNums dTxt
  simp only [List.map_cons, List.map_nil]
  rw [show ((97 : Int) + (i : Int)).toNat = 97 + i by omega]
  rfl
theorem two_txt1 {i : Nat} {x : Int} (hx : (97 : Int) + (i : Int) = x) : strOfNums [x, 49] = dTxt i 1 := by
  subst hx
  unfold strOfNums dTxt
  simp only [List.map_cons, List.map_nil]
  rw [show ((97 : Int) + (i : Int)).toNat = 97 + i by omega]
  rfl
theorem row3_kept {W X : World} {k base n c g0 : Nat} {cs : Array Value} {xs : List Value} (h : W.heap[k]? = some (.cells cs 3 (0, 0))) (ho : W.ownsRow base 35 5 (.slice (some ⟨g0, 0, none⟩) n c) n xs) (hg : W.grownBy X (some g0)) : X.heap[k]? = some (.cells cs 3 (0, 0)) := by
  refine (hg.block k (Array.getElem?_eq_some_iff.1 h).1 (fun e => ?_)).trans h
  injection e with e
  rcases ho.2 with ⟨e2, _⟩ | ⟨g', c', cur, e2, _, hc, _⟩
  · cases e2
  · injection e2 with e2 _ _
    injection e2 with e2
    injection e2 with e2 _ _
    rw [← e2, ← e, h] at hc
    injection hc with hc
    injection hc with _ hc _
    cases hc
theorem dActs_txt (n m : Nat) : ∀ a ∈ dActs n m, a.t.size ≤ 2 := by
  intro a ha
  unfold dActs at ha
  simp only [List.mem_append, List.mem_map, List.mem_replicate] at ha
  rcases ha with (⟨i, _, rfl⟩ | ⟨i, _, rfl⟩) | ⟨_, rfl⟩
  · exact Nat.le_refl 2
  · exact Nat.le_refl 2
  · exact Nat.zero_le 2
theorem tkC_low {al : List Ta} (h : al.length ≤ 120) (ht : ∀ a ∈ al, a.t.size ≤ 2) : tkC al = 0 := by
  unfold tkC
  rw [if_neg (by omega), if_neg (by omega), if_neg]
  intro c
  rw [List.any_eq_true] at c
  obtain ⟨a, ha, hc⟩ := c
  have := of_decide_eq_true hc
  have := ht a ha
  omega
theorem dlv_spec {n m : Nat} (hn : n < 9) (hm : m < 9) : (runF (dActs n m) tw0).x.q.length = 0 ∧ (runF (dActs n m) tw0).y.q.length = 0 ∧ (runF (dActs n m) tw0).y.i = (List.range n).map (fun i => dTxt i 0) ∧ (runF (dActs n m) tw0).x.i.length = m := by
  have h := dlv_all ⟨n, hn⟩ ⟨m, hm⟩
  unfold dlv at h
  simp only [Bool.and_eq_true, decide_eq_true_eq] at h
  exact ⟨h.1.1.1, h.1.1.2, h.1.2, h.2⟩
theorem peA_inj' {q q' i i' : Value} {s s' e e' : Int} (h : peA q s e i = peA q' s' e' i') : i = i' := (peA_inj h).2
theorem peV_i {w : World} {q i : Value} {s e : Int} {p : Pe} (h : peV w (peA q s e i) p) : strsV w i p.i := by
  obtain ⟨q2, i2, hpe, hq, hi⟩ := h
  have := peA_inj' hpe
  rw [this]; exact hi
theorem law_delivers (A B : Option Addr) (n cap m cbp : Nat) (w : World) (hn : n ≤ maxLen) (hm : m ≤ maxLen) (hA : codeAt w A n) (hB : codeAt w B m) :
    Calls Try.prog 4 #[.slice A n cap, .slice B m cbp] w fun e w' => e = .returned (.bool true) ∧ Below w.heap.size w w' := by
  unfold maxLen at hn hm
  by_cases h1 : 1048576 < n
  · have q1 : (1048576 : Int) < (n : Int) := by omega
    clear hA hB
    go_enter Try.func4, Try.ntmps4
    go_wp2_with fail
    go_ret
    exact ⟨rfl, Below.refl _ _⟩
  by_cases h2 : 1048576 < m
  · have q1 : (n : Int) ≤ 1048576 := by omega
    have q2 : (1048576 : Int) < (m : Int) := by omega
    clear hA hB h1
    go_enter Try.func4, Try.ntmps4
    go_wp2_with fail
    go_ret
    exact ⟨rfl, Below.refl _ _⟩
  have q1 : (n : Int) ≤ 1048576 := by omega
  have q2 : (m : Int) ≤ 1048576 := by omega
  have KA := hide (fun W (h : Below w.heap.size w W) => at_any W B m cbp 0 9 (by omega) (by omega) (by omega) (by omega) (codeAt_below hB h))
  have KB := hide (fun W (h : Below w.heap.size w W) => at_any W B m cbp 1 9 (by omega) (by omega) (by omega) (by omega) (codeAt_below hB h))
  clear hA hB h1 h2 hn hm
  go_enter Try.func4, Try.ntmps4
  go_wp2_with fail
  refine (unhide KA _ (Below.refl _ _)).mono ?_
  rintro e w1 ⟨nn, rfl, hnn, b1⟩
  have B1 := hide b1
  clear b1
  go_wp2_with fail
  refine (unhide KB _ (unhide B1)).mono ?_
  rintro e w2 ⟨mm, rfl, hmm, b2⟩
  have B2 := hide (bl_st b2 (unhide B1))
  clear b2 B1 KA KB
  have HNM : Hid (nn < 9 ∧ mm < 9) := hide ⟨hnn, hmm⟩
  clear hnn hmm
  have HO0 : Hid (((w2.alloc (.cells #[] 35)).alloc (.cells #[.int .i64 (nn : Int), .int .i64 (mm : Int)] 3)).ownsRow w.heap.size 35 5 (.slice (some ⟨w2.heap.size, 0, none⟩) 0 0) 0 (flatT [])) := hide (by
    refine World.ownsRow.alloc ?_ _
    exact ⟨rfl, .inr ⟨w2.heap.size, 0, #[], rfl, (unhide B2).size, heap_alloc_new w2 _, Nat.le_refl _, by unfold maxLen; omega, rfl, rfl⟩⟩)
  obtain ⟨k8, hk8⟩ : ∃ k, k = w2.heap.size + 1 := ⟨_, rfl⟩
  have HK0 : Hid (((w2.alloc (.cells #[] 35)).alloc (.cells #[.int .i64 (nn : Int), .int .i64 (mm : Int)] 3)).heap[k8]? = some (.cells #[.int .i64 (nn : Int), .int .i64 (mm : Int)] 3 (0, 0))) := hide (heap_at _ _ _ (by rw [hk8]; simp))
  have HB0 : Hid (Below w.heap.size w ((w2.alloc (.cells #[] 35)).alloc (.cells #[.int .i64 (nn : Int), .int .i64 (mm : Int)] 3))) := hide (bl_al (bl_al (unhide B2)))
  go_wp2_with fail
  rw [← hk8]
  generalize (w2.alloc (.cells #[] 35)).alloc (.cells #[.int .i64 (nn : Int), .int .i64 (mm : Int)] 3) = w3 at *
  generalize w2.heap.size = g00 at *
  clear hk8 B2
  go_loopw [7, 9] (fun s iv wr => ∃ (j g c : Nat) (al : List Ta), j ≤ 2 ∧ iv = .int .i64 j ∧ s = .slice (some ⟨g, 0, none⟩) al.length c ∧ al = preL nn mm j ∧ wr.ownsRow w.heap.size 35 5 (.slice (some ⟨g, 0, none⟩) al.length c) al.length (flatT al) ∧ wr.heap[k8]? = some (.cells #[.int .i64 (nn : Int), .int .i64 (mm : Int)] 3 (0, 0)) ∧ Below w.heap.size w wr) (fun _ iv _ => 2 - (intOf iv).toNat)
  case atStart => exact ⟨0, _, _, [], by omega, rfl, rfl, rfl, unhide HO0, unhide HK0, unhide HB0⟩
  case round =>
    obtain ⟨j, g, c, al, hj, rfl, rfl, hal, hown, hk, hb⟩ := hrel
    have HO := hide hown
    have HK := hide hk
    have HB := hide hb
    have HAL := hide hal
    clear hown hk hb hal HO0 HK0 HB0
    rcases (by omega : j = 0 ∨ j = 1 ∨ j = 2) with rfl | rfl | rfl
    · clear hj
      rw [show ((0 : Nat) : Int) = 0 from rfl]
      go_wp2_with fail
      go_loopw [7, 10] (fun s iv wr => ∃ (i g c : Nat) (al : List Ta), i ≤ nn ∧ iv = .int .i64 i ∧ s = .slice (some ⟨g, 0, none⟩) al.length c ∧ al = [] ++ sayL 0 i ∧ wr.ownsRow w.heap.size 35 5 (.slice (some ⟨g, 0, none⟩) al.length c) al.length (flatT al) ∧ wr.heap[k8]? = some (.cells #[.int .i64 (nn : Int), .int .i64 (mm : Int)] 3 (0, 0)) ∧ Below w.heap.size w wr) (fun _ iv _ => nn - (intOf iv).toNat)
      case atStart => exact ⟨0, g, c, al, by omega, rfl, rfl, by rw [unhide HAL]; simp [preL, sayL], unhide HO, unhide HK, unhide HB⟩
      case round =>
        obtain ⟨i, g2, c2, al2, hi, rfl, rfl, hal, hown, hk, hb⟩ := hrel
        have HO2 := hide hown
        have HK2 := hide hk
        have HB2 := hide hb
        have HAL2 := hide hal
        have HLN : Hid (al2.length ≤ 100) := hide (by rw [hal]; simp [sayL]; have := unhide HNM; omega)
        have d0 := row_cell (i := 0) hk
        have d1 := row_cell (i := 1) hk
        simp at d0 d1
        generalize hln : al2.length = ln at *
        clear hown hk hb hal HO HK HB HAL
        rcases Nat.lt_or_ge i nn with hlt | hge
        · have q1 : (i : Int) < (nn : Int) := by omega
          have q0 : (0 : Int) ≤ (i : Int) := by omega
          obtain ⟨x, hx⟩ : ∃ x : Int, (97 : Int) + (i : Int) = x := ⟨_, rfl⟩
          have x0 : 0 ≤ x := by omega
          have x1 : x < 256 := by have := unhide HNM; omega
          have xw : IntKind.u8.wrap x = x := by rw [IntKind.wrap_u8]; omega
          have hcv := two_at (wr.alloc (.cells #[.int .u8 x, .int .u8 48] 5)) wr.heap.size x 48 (heap_alloc_new wr _)
          rw [two_txt0 hx] at hcv
          have HLT := hide hlt
          clear hlt hi
          have HZ : Hid (w.heap.size ≤ wr.heap.size) := hide (unhide HB2).size
          go_wp2_with (at_builtin; refine wpList_pushA (wr.alloc (.cells #[.int .u8 x, .int .u8 48] 5)) rfl _ _ rfl w.heap.size ln g2 c2 al2 rfl ((unhide HO2).alloc _) (wr.heap.size + 1) (by simp) (⟨1, 0, dTxt i 0, false, false⟩ : Ta) rfl (by have := unhide HLN; omega) (by have := unhide HZ; simp; omega) ?_; intro g3 c3 w3 hgr hbg hown3; have HO3 := hide hown3; have HK3 := hide (row3_kept ((((bl_al (bl_al (o := .cells #[.int .u8 x, .int .u8 48] 5) (Below.refl _ _))).block _ (Array.getElem?_eq_some_iff.1 (unhide HK2)).1)).trans (unhide HK2)) (((unhide HO2).alloc _).alloc _) hgr); have HB3 := hide (Below.grown (bl_al (o := .cells #[.int .i64 1, .int .i64 0, .string (dTxt i 0), .bool false, .bool false] 35) (bl_al (o := .cells #[.int .u8 x, .int .u8 48] 5) (unhide HB2))) hgr (by have := unhide HZ; simp; omega) (fun k e => by cases e; exact hbg)); clear hown3 hgr hbg)
          have e9 : (al2 ++ [(⟨1, 0, dTxt i 0, false, false⟩ : Ta)]).length = ln + 1 := by rw [List.length_append, hln]; rfl
          go_roundw
          case rel => exact ⟨i + 1, g3, c3, al2 ++ [⟨1, 0, dTxt i 0, false, false⟩], by have := unhide HLT; omega, by go_num, by rw [e9], by rw [unhide HAL2, sayL_snoc, List.append_assoc]; rfl, by rw [e9]; exact unhide HO3, unhide HK3, unhide HB3⟩
          case measure => have := unhide HLT; simp [intOf]; omega
        · have q1 : (nn : Int) ≤ (i : Int) := by omega
          obtain rfl : i = nn := by omega
          clear hge hi
          go_wp2_with fail
          refine ⟨⟨1, g2, c2, al2, by omega, by go_num, by rw [hln], by rw [unhide HAL2]; rfl, by rw [hln]; exact unhide HO2, unhide HK2, unhide HB2⟩, ?_⟩
          simp [intOf]
    · clear hj
      rw [show ((1 : Nat) : Int) = 1 from rfl]
      go_wp2_with fail
      go_loopw [7, 10] (fun s iv wr => ∃ (i g c : Nat) (al : List Ta), i ≤ mm ∧ iv = .int .i64 i ∧ s = .slice (some ⟨g, 0, none⟩) al.length c ∧ al = sayL 0 nn ++ sayL 1 i ∧ wr.ownsRow w.heap.size 35 5 (.slice (some ⟨g, 0, none⟩) al.length c) al.length (flatT al) ∧ wr.heap[k8]? = some (.cells #[.int .i64 (nn : Int), .int .i64 (mm : Int)] 3 (0, 0)) ∧ Below w.heap.size w wr) (fun _ iv _ => mm - (intOf iv).toNat)
      case atStart => exact ⟨0, g, c, al, by omega, rfl, rfl, by rw [unhide HAL]; simp [preL, sayL], unhide HO, unhide HK, unhide HB⟩
      case round =>
        obtain ⟨i, g2, c2, al2, hi, rfl, rfl, hal, hown, hk, hb⟩ := hrel
        have HO2 := hide hown
        have HK2 := hide hk
        have HB2 := hide hb
        have HAL2 := hide hal
        have HLN : Hid (al2.length ≤ 100) := hide (by rw [hal]; simp [sayL]; have := unhide HNM; omega)
        have d0 := row_cell (i := 0) hk
        have d1 := row_cell (i := 1) hk
        simp at d0 d1
        generalize hln : al2.length = ln at *
        clear hown hk hb hal HO HK HB HAL
        rcases Nat.lt_or_ge i mm with hlt | hge
        · have q1 : (i : Int) < (mm : Int) := by omega
          have q0 : (0 : Int) ≤ (i : Int) := by omega
          obtain ⟨x, hx⟩ : ∃ x : Int, (97 : Int) + (i : Int) = x := ⟨_, rfl⟩
          have x0 : 0 ≤ x := by omega
          have x1 : x < 256 := by have := unhide HNM; omega
          have xw : IntKind.u8.wrap x = x := by rw [IntKind.wrap_u8]; omega
          have hcv := two_at (wr.alloc (.cells #[.int .u8 x, .int .u8 49] 5)) wr.heap.size x 49 (heap_alloc_new wr _)
          rw [two_txt1 hx] at hcv
          have HLT := hide hlt
          clear hlt hi
          have HZ : Hid (w.heap.size ≤ wr.heap.size) := hide (unhide HB2).size
          go_wp2_with (at_builtin; refine wpList_pushA (wr.alloc (.cells #[.int .u8 x, .int .u8 49] 5)) rfl _ _ rfl w.heap.size ln g2 c2 al2 rfl ((unhide HO2).alloc _) (wr.heap.size + 1) (by simp) (⟨1, 1, dTxt i 1, false, false⟩ : Ta) rfl (by have := unhide HLN; omega) (by have := unhide HZ; simp; omega) ?_; intro g3 c3 w3 hgr hbg hown3; have HO3 := hide hown3; have HK3 := hide (row3_kept ((((bl_al (bl_al (o := .cells #[.int .u8 x, .int .u8 49] 5) (Below.refl _ _))).block _ (Array.getElem?_eq_some_iff.1 (unhide HK2)).1)).trans (unhide HK2)) (((unhide HO2).alloc _).alloc _) hgr); have HB3 := hide (Below.grown (bl_al (o := .cells #[.int .i64 1, .int .i64 1, .string (dTxt i 1), .bool false, .bool false] 35) (bl_al (o := .cells #[.int .u8 x, .int .u8 49] 5) (unhide HB2))) hgr (by have := unhide HZ; simp; omega) (fun k e => by cases e; exact hbg)); clear hown3 hgr hbg)
          have e9 : (al2 ++ [(⟨1, 1, dTxt i 1, false, false⟩ : Ta)]).length = ln + 1 := by rw [List.length_append, hln]; rfl
          go_roundw
          case rel => exact ⟨i + 1, g3, c3, al2 ++ [⟨1, 1, dTxt i 1, false, false⟩], by have := unhide HLT; omega, by go_num, by rw [e9], by rw [unhide HAL2, sayL_snoc, List.append_assoc]; rfl, by rw [e9]; exact unhide HO3, unhide HK3, unhide HB3⟩
          case measure => have := unhide HLT; simp [intOf]; omega
        · have q1 : (mm : Int) ≤ (i : Int) := by omega
          obtain rfl : i = mm := by omega
          clear hge hi
          go_wp2_with fail
          refine ⟨⟨2, g2, c2, al2, by omega, by go_num, by rw [hln], by rw [unhide HAL2]; rfl, by rw [hln]; exact unhide HO2, unhide HK2, unhide HB2⟩, ?_⟩
          simp [intOf]
    · clear hj
      rw [show ((2 : Nat) : Int) = 2 from rfl]
      go_wp2_with fail
      go_loopw [7, 11] (fun s iv wr => ∃ (i g c : Nat) (al : List Ta), i ≤ 17 ∧ iv = .int .i64 i ∧ s = .slice (some ⟨g, 0, none⟩) al.length c ∧ al = preL nn mm 2 ++ List.replicate i ⟨2, 0, ⟨#[]⟩, false, false⟩ ∧ wr.ownsRow w.heap.size 35 5 (.slice (some ⟨g, 0, none⟩) al.length c) al.length (flatT al) ∧ Below w.heap.size w wr) (fun _ iv _ => 17 - (intOf iv).toNat)
      case atStart => exact ⟨0, g, c, al, by omega, rfl, rfl, by rw [unhide HAL]; simp, unhide HO, unhide HB⟩
      case round =>
        obtain ⟨i, g2, c2, al2, hi, rfl, rfl, hal, hown, hb⟩ := hrel
        have HO2 := hide hown
        have HB2 := hide hb
        have HAL2 := hide hal
        have HLN : Hid (al2.length ≤ 100) := hide (by rw [hal]; simp [sayL, preL]; have := unhide HNM; omega)
        generalize hln : al2.length = ln at *
        clear hown hb hal HO HK HB HAL
        rcases Nat.lt_or_ge i 17 with hlt | hge
        · have q1 : (i : Int) < 17 := by omega
          have q0 : (0 : Int) ≤ (i : Int) := by omega
          have HLT := hide hlt
          clear hlt hi
          have HZ : Hid (w.heap.size ≤ wr.heap.size) := hide (unhide HB2).size
          go_wp2_with (at_builtin; refine wpList_pushA wr rfl _ _ rfl w.heap.size ln g2 c2 al2 rfl (unhide HO2) wr.heap.size rfl (⟨2, 0, ⟨#[]⟩, false, false⟩ : Ta) rfl (by have := unhide HLN; omega) (by have := unhide HZ; simp; omega) ?_; intro g3 c3 w3 hgr hbg hown3; have HO3 := hide hown3; have HB3 := hide (Below.grown (bl_al (o := .cells #[.int .i64 2, .int .i64 0, .string ⟨#[]⟩, .bool false, .bool false] 35) (unhide HB2)) hgr (by have := unhide HZ; simp; omega) (fun k e => by cases e; exact hbg)); clear hown3 hgr hbg)
          have e9 : (al2 ++ [(⟨2, 0, ⟨#[]⟩, false, false⟩ : Ta)]).length = ln + 1 := by rw [List.length_append, hln]; rfl
          go_roundw
          case rel => exact ⟨i + 1, g3, c3, al2 ++ [⟨2, 0, ⟨#[]⟩, false, false⟩], by have := unhide HLT; omega, by go_num, by rw [e9], by rw [unhide HAL2, List.append_assoc, List.replicate_succ'], by rw [e9]; exact unhide HO3, unhide HB3⟩
          case measure => have := unhide HLT; simp [intOf]; omega
        · obtain rfl : i = 17 := by omega
          have HD : Hid (al2 = dActs nn mm) := hide (by rw [unhide HAL2]; rfl)
          have HACT := hide (acts_row rfl (hln ▸ unhide HO2))
          clear hge hi HAL2 HO2
          have e := unhide HD
          subst e
          rw [hln] at HACT
          have HTX : Hid (∀ a ∈ dActs nn mm, a.t.size ≤ 2) := hide (dActs_txt nn mm)
          have K12 := hide (run12 _ (dActs nn mm) wr (unhide HACT) (by have := unhide HLN; unfold maxLen; omega) (fun a ha => by have := unhide HTX a ha; unfold maxLen; omega))
          have htk : tkC (dActs nn mm) = 0 := tkC_low (by rw [hln]; have := unhide HLN; omega) (unhide HTX)
          rw [htk] at K12
          have HTK := hide htk
          clear htk
          go_wp2_with (go_at_call 12; refine (unhide K12).mono ?_; rintro e w5 ⟨lv, cv, rfl, ho, hb5⟩; obtain ⟨gg, cb, base, rfl, rfl, h1, h2, h3, h4, hT, hC⟩ := ho.1 (unhide HTK); have HB5 := hide (bl_st hb5 (unhide HB2)); have HDL := hide (dlv_spec (unhide HNM).1 (unhide HNM).2); have HT5 := hide hT; clear hb5 ho hC h1 h2 h3 h4; obtain ⟨Q0, I0, Q1, I1, lo0, hi0, lo1, hi1, hr, hx, hy, _⟩ := hT; obtain ⟨A0, r0, C0, r1, e0⟩ := hx.pe.slices; obtain ⟨A1, r2, C1, r3, e1⟩ := hy.pe.slices; obtain ⟨rfl, rfl⟩ := peA_inj e0; obtain ⟨rfl, rfl⟩ := peA_inj e1; have HY := hide hy.pe; have l0 := (unhide HDL).1; have l1 := (unhide HDL).2.1; have l2 := (unhide HDL).2.2.1; have l3 := (unhide HDL).2.2.2; have HYI := hide (peV_i hy.pe); have k0 := hr.c0; have k3 := hr.c3; have k4 := hr.c4; have k7 := hr.c7; have HR := hide hr; rw [l0] at k0; rw [l1] at k4; rw [l2, List.length_map, List.length_range] at k7; rw [l3] at k3; rw [l2] at HYI; clear hx hy e0 e1 hr l0 l1 l2 l3 K12)
          go_loopw [15] (fun iv wr => ∃ i : Nat, i ≤ nn ∧ iv = .int .i64 i ∧ Below w5.heap.size w5 wr) (fun iv _ => nn - (intOf iv).toNat)
          case atStart => exact ⟨0, by omega, rfl, Below.refl _ _⟩
          case round =>
            obtain ⟨i, hi, rfl, hb⟩ := hrel
            have HBR := hide hb
            rcases Nat.lt_or_ge i nn with hlt | hge
            · have q1 : (i : Int) < (nn : Int) := by omega
              have q0 : (0 : Int) ≤ (i : Int) := by omega
              have q9 : (nn : Int) < 9 := by have := unhide HNM; omega
              obtain ⟨x, hx⟩ : ∃ x : Int, (97 : Int) + (i : Int) = x := ⟨_, rfl⟩
              have x0 : 0 ≤ x := by omega
              have x1 : x < 256 := by omega
              have xw : IntKind.u8.wrap x = x := by rw [IntKind.wrap_u8]; omega
              have RR := hide ((unhide HR).below hb)
              obtain ⟨A', c', esl, hcc⟩ := (unhide HYI).below hb
              have esl2 := esl
              injection esl with ea en ec
              subst ea ec
              obtain ⟨b, off, hA, hbl, hcell⟩ := hcc (by simp; omega)
              subst hA
              have hci := hcell i (by simpa using hlt)
              rw [show ((List.range nn).map (fun i => dTxt i 0)).getD i noS = dTxt i 0 by simp [List.getD_eq_getElem?_getD, hlt]] at hci
              have HCI := hide hci
              have HBL := hide hbl
              have HLT := hide hlt
              have HX := hide hx
              clear hcc hcell hci hbl hlt hi esl2 en hb
              have C7 : Hid (∀ W, Below wr.heap.size wr W → W.cell? ⟨gg, 7, none⟩ = some (.slice (some ⟨b, off, none⟩) nn r3)) := hide (fun W h => by have := ((unhide RR).below h).c7; rw [(unhide HDL).2.2.1, List.length_map, List.length_range] at this; exact this)
              have CI : Hid (∀ W, Below wr.heap.size wr W → W.cell? ⟨b, off + i, none⟩ = some (.string (dTxt i 0))) := hide (fun W h => (cell_below h (unhide HBL)).trans (unhide HCI))
              clear RR HR HCI HBL HYI HY HT5 HDL k0 k3 k4 k7
              go_wp2_with fail
              refine wp_region_held (S := fun W' => Below wr.heap.size wr W') (by kernel_rfl) ?_
              have hS0 : Below wr.heap.size wr { wr with drawn := wr.drawn + 1 } := below_drewN (Below.refl _ _) 1
              obtain ⟨w6, hw6⟩ : ∃ x, x = ({ wr with drawn := wr.drawn + 1 } : World) := ⟨_, rfl⟩
              rw [← hw6] at hS0 ⊢
              clear hw6
              have hcv := two_at (w6.alloc (.cells #[.int .u8 x, .int .u8 48] 5)) w6.heap.size x 48 (heap_alloc_new w6 _)
              rw [two_txt0 (unhide HX)] at hcv
              have xi : IntKind.i64.wrap x = x := by rw [IntKind.wrap_i64]; omega
              have s7 : Below wr.heap.size wr (w6.alloc (.cells #[.int .u8 x, .int .u8 48] 5)) := bl_al hS0
              refine wpAnyH_take (i := 0) (oi := { dst := some 117, op := Op.move (Operand.tmp 12), type := 25, pos := "laws.go:1144", after := #[], guard := none }) (v := ?_) rfl (by kernel_rfl) (by kernel_rfl) (by kernel_rfl) (fun _ _ _ h => h) (Or.inl ⟨by rfl, ?_⟩) hS0 ?_
              rotate_left
              · intro W hSw
                go_simp
                try with_reducible rfl
              simp only [Act.put, List.setIfInBounds_toArray, List.set_cons_zero, List.set_cons_succ]
              refine wpAnyH_take (i := 1) (oi := { dst := some 118, op := Op.indexAddr 25 (Operand.tmp 117) (Operand.const (Value.int IntKind.i64 1)), type := 0, pos := "laws.go:1144", after := #[{ on := 0, ground := Ground.data }], guard := none }) (v := ?_) rfl (by kernel_rfl) (by kernel_rfl) (by kernel_rfl) (fun _ _ _ h => h) (Or.inl ⟨by rfl, ?_⟩) hS0 ?_
              rotate_left
              · intro W hSw
                go_simp
                try with_reducible rfl
              simp only [Act.put, List.setIfInBounds_toArray, List.set_cons_zero, List.set_cons_succ]
              refine wpAnyH_take (i := 2) (oi := { dst := some 119, op := Op.fieldAddr 33 (Operand.tmp 118) 3, type := 0, pos := "laws.go:1144", after := #[{ on := 1, ground := Ground.data }], guard := none }) (v := ?_) rfl (by kernel_rfl) (by kernel_rfl) (by kernel_rfl) (fun _ _ _ h => h) (Or.inl ⟨by rfl, ?_⟩) hS0 ?_
              rotate_left
              · intro W hSw
                go_simp
                try with_reducible rfl
              simp only [Act.put, List.setIfInBounds_toArray, List.set_cons_zero, List.set_cons_succ]
              refine wpAnyH_take (i := 3) (oi := { dst := some 120, op := Op.load 31 (Operand.tmp 119), type := 31, pos := "laws.go:1144", after := #[{ on := 2, ground := Ground.data }], guard := none }) (v := ?_) rfl (by kernel_rfl) (by kernel_rfl) (by kernel_rfl) (fun _ _ _ h => h) (Or.inl ⟨by rfl, ?_⟩) hS0 ?_
              rotate_left
              · intro W hSw
                have c7 := unhide C7 W hSw
                have ci := unhide CI W hSw
                go_simp
                try with_reducible rfl
              simp only [Act.put, List.setIfInBounds_toArray, List.set_cons_zero, List.set_cons_succ]
              refine wpAnyH_take (i := 4) (oi := { dst := some 121, op := Op.move (Operand.tmp 15), type := 3, pos := "laws.go:1144", after := #[], guard := none }) (v := ?_) rfl (by kernel_rfl) (by kernel_rfl) (by kernel_rfl) (fun _ _ _ h => h) (Or.inl ⟨by rfl, ?_⟩) hS0 ?_
              rotate_left
              · intro W hSw
                go_simp
                try with_reducible rfl
              simp only [Act.put, List.setIfInBounds_toArray, List.set_cons_zero, List.set_cons_succ]
              refine wpAnyH_take (i := 5) (oi := { dst := some 122, op := Op.indexAddr 31 (Operand.tmp 120) (Operand.tmp 121), type := 0, pos := "laws.go:1144", after := #[{ on := 3, ground := Ground.data }, { on := 4, ground := Ground.data }], guard := none }) (v := ?_) rfl (by kernel_rfl) (by kernel_rfl) (by kernel_rfl) (fun _ _ _ h => h) (Or.inl ⟨by rfl, ?_⟩) hS0 ?_
              rotate_left
              · intro W hSw
                go_simp
                try with_reducible rfl
              simp only [Act.put, List.setIfInBounds_toArray, List.set_cons_zero, List.set_cons_succ]
              refine wpAnyH_take (i := 6) (oi := { dst := some 123, op := Op.load 9 (Operand.tmp 122), type := 9, pos := "laws.go:1144", after := #[{ on := 5, ground := Ground.data }], guard := none }) (v := ?_) rfl (by kernel_rfl) (by kernel_rfl) (by kernel_rfl) (fun _ _ _ h => h) (Or.inl ⟨by rfl, ?_⟩) hS0 ?_
              rotate_left
              · intro W hSw
                have c7 := unhide C7 W hSw
                have ci := unhide CI W hSw
                go_simp
                try with_reducible rfl
              simp only [Act.put, List.setIfInBounds_toArray, List.set_cons_zero, List.set_cons_succ]
              refine wpAnyH_take (i := 7) (oi := { dst := some 124, op := Op.move (Operand.tmp 15), type := 3, pos := "laws.go:1144", after := #[], guard := none }) (v := ?_) rfl (by kernel_rfl) (by kernel_rfl) (by kernel_rfl) (fun _ _ _ h => h) (Or.inl ⟨by rfl, ?_⟩) hS0 ?_
              rotate_left
              · intro W hSw
                go_simp
                try with_reducible rfl
              simp only [Act.put, List.setIfInBounds_toArray, List.set_cons_zero, List.set_cons_succ]
              refine wpAnyH_take (i := 8) (oi := { dst := some 125, op := Op.binOp BinOp.add 3 (Operand.const (Value.int IntKind.i64 97)) (Operand.tmp 124) 3, type := 3, pos := "laws.go:1144", after := #[{ on := 7, ground := Ground.data }], guard := none }) (v := ?_) rfl (by kernel_rfl) (by kernel_rfl) (by kernel_rfl) (fun _ _ _ h => h) (Or.inl ⟨by rfl, ?_⟩) hS0 ?_
              rotate_left
              · intro W hSw
                go_simp
                try with_reducible rfl
              simp only [Act.put, List.setIfInBounds_toArray, List.set_cons_zero, List.set_cons_succ]
              refine wpAnyH_take (i := 9) (oi := { dst := some 126, op := Op.convert 3 5 (Operand.tmp 125), type := 5, pos := "laws.go:1144", after := #[{ on := 8, ground := Ground.data }], guard := none }) (v := ?_) rfl (by kernel_rfl) (by kernel_rfl) (by kernel_rfl) (fun _ _ _ h => h) (Or.inl ⟨by rfl, ?_⟩) hS0 ?_
              rotate_left
              · intro W hSw
                go_simp
                try with_reducible rfl
              simp only [Act.put, List.setIfInBounds_toArray, List.set_cons_zero, List.set_cons_succ]
              refine wpAnyH_one (i := 10) (by kernel_rfl) ?_
              refine wpOp_step (o := { dst := some 127, op := Op.buildSlice 22 2 #[(0, Operand.tmp 126), (1, Operand.const (Value.int IntKind.u8 48))], type := 22, pos := "laws.go:1144", after := #[{ on := 9, ground := Ground.data }], guard := none }) rfl fun K' hK => step_valueW (by rfl) (.slice (some ⟨w6.heap.size, 0, none⟩) 2 2) (w6.alloc (.cells #[.int .u8 x, .int .u8 48] 5)) (by go_simp) ?_
              refine hK _ _ ⟨s7, ?_⟩
              simp only [Act.put, List.setIfInBounds_toArray, List.set_cons_zero, List.set_cons_succ]
              refine wpAnyH_one (i := 11) (by kernel_rfl) ?_
              refine wpOp_step (o := { dst := some 128, op := Op.convert 22 9 (Operand.tmp 127), type := 9, pos := "laws.go:1144", after := #[{ on := 10, ground := Ground.data }], guard := none }) rfl fun K' hK => step_valueW (by rfl) (.string (dTxt i 0)) (w6.alloc (.cells #[.int .u8 x, .int .u8 48] 5)) (by go_simp) ?_
              refine hK _ _ ⟨s7, ?_⟩
              simp only [Act.put, List.setIfInBounds_toArray, List.set_cons_zero, List.set_cons_succ]
              refine wpAnyH_take (i := 12) (oi := { dst := some 129, op := Op.binOp BinOp.neq 9 (Operand.tmp 123) (Operand.tmp 128) 9, type := 4, pos := "laws.go:1144", after := #[{ on := 6, ground := Ground.data }, { on := 11, ground := Ground.data }], guard := none }) (v := ?_) rfl (by kernel_rfl) (by kernel_rfl) (by kernel_rfl) (fun _ _ _ h => h) (Or.inl ⟨by rfl, ?_⟩) s7 ?_
              rotate_left
              · intro W hSw
                go_simp
                try with_reducible rfl
              simp only [Act.put, List.setIfInBounds_toArray, List.set_cons_zero, List.set_cons_succ]
              refine wpAnyH_done (by kernel_rfl) ?_ _
              have HBZ := hide (bl_st s7 (unhide HBR))
              clear hcv s7 hS0
              go_wp2_with fail
              go_roundw
              case rel => exact ⟨i + 1, by have := unhide HLT; omega, by go_num, unhide HBZ⟩
              case measure => have := unhide HLT; simp [intOf]; omega
            · obtain rfl : i = nn := by omega
              clear hi hb
              go_wp2_with fail
              go_ret
              exact ⟨rfl, bl_st (unhide HBR) (unhide HB5)⟩
end Go.Proofs.Ythonnlifgdnacaa
