/- The law on blame. -/
import Derived.Test.YtecgfkfifocbaaaFbm
import Derived.Test.YtecgfkfifocbaaaAt
import Derived.Test.YtecgfkfifocbaaaLbh
import Derived.Test.YtecgfkfifocbaaaLbh
namespace Go.Proofs.Ytecgfkfifocbaaa
open Go.RowKit
set_option maxHeartbeats 4000000
set_option maxRecDepth 20000
theorem byte_at (X : World) (b : Nat) (x : Int) (h : X.heap[b]? = some (.cells #[.int .u8 x] 5 (0, 0))) : (convert 39 9 (.slice (some ⟨b, 0, none⟩) 1 1)).run Try.prog X = .ok (.string (strOfNums [x])) X :=
  own_str (base := 0) (n := 1) (xs := [x]) ⟨rfl, .inr ⟨b, 1, #[.int .u8 x], rfl, Nat.zero_le _, h, Nat.le_refl _, by unfold maxLen; omega, rfl, rfl⟩⟩ rfl
theorem law_fnblame (w : World) (A : Option Addr) (n ca : Nat) (hn : n ≤ maxLen) (hc : codeAt w A n) (B : Option Addr) (m cb : Nat) (hm : m ≤ maxLen) (hd : codeAt w B m) :
    Calls Try.prog 5 #[.slice A n ca, .slice B m cb] w fun e w' => e = .returned (.bool true) ∧ Below w.heap.size w w' := by
  have n0 : (0 : Int) ≤ (n : Int) := by omega
  have m0 : (0 : Int) ≤ (m : Int) := by omega
  have hn' := hn
  have hm' := hm
  unfold maxLen at hn' hm'
  by_cases h1 : 1048576 < n
  · have q : (1048576 : Int) < (n : Int) := by omega
    have q2 : (n : Int) ≤ 9223372036854775807 := by omega
    clear h1 hn hc hd hm
    go_enter Try.func5, Try.ntmps5
    go_wp2
    go_ret
    exact ⟨rfl, Below.refl _ _⟩
  have q1 : (n : Int) ≤ 1048576 := by omega
  clear h1
  by_cases h2 : 1048576 < m
  · have q : (1048576 : Int) < (m : Int) := by omega
    have q2 : (m : Int) ≤ 9223372036854775807 := by omega
    clear h2 hn hc hd hm
    go_enter Try.func5, Try.ntmps5
    go_wp2
    go_ret
    exact ⟨rfl, Below.refl _ _⟩
  have q2 : (m : Int) ≤ 1048576 := by omega
  have KAT : Hid (∀ W (i N : Nat), Below w.heap.size w W → i ≤ 1000 → 1 ≤ N → N ≤ 65536 → Calls Try.prog 17 #[.slice B m cb, .int .i64 i, .int .i64 N] W fun e w' => ∃ v : Nat, e = .returned (.int .i64 v) ∧ v < N ∧ Below W.heap.size W w') := hide fun W i N hb hi h1 h2 => at_one W B m cb i N (by omega) hi h1 h2 (codeAt_below hd hb)
  have KBL : Hid (∀ W, Below w.heap.size w W → Calls Try.prog 18 #[.slice B m cb, .int .i64 5] W fun e w' => ∃ t : ByteArray, e = .returned (.string t) ∧ t.size = 5 ∧ Below W.heap.size W w') := hide fun W hb => blobOf_any 5 B m cb W (by omega) hm (codeAt_below hd hb)
  have KIT : Hid (∀ W, Below w.heap.size w W → Calls Try.prog 19 #[.slice A n ca] W fun e w' => ∃ (g c : Nat) (ts : List ByteArray), e = .returned (.slice (some ⟨g, 0, none⟩) ts.length c) ∧ ts.length ≤ 7 ∧ goodT ts ∧ w'.ownsRow W.heap.size 9 1 (.slice (some ⟨g, 0, none⟩) ts.length c) ts.length (ts.map Value.string) ∧ Below W.heap.size W w') := hide fun W hb => itemsOf19 A n ca W hn (codeAt_below hc hb)
  clear h2 hn hm hc hd hn' hm'
  go_enter Try.func5, Try.ntmps5
  go_wp2_with fail
  refine (unhide KAT w 0 4 (Below.refl _ _) (by omega) (by omega) (by omega)).mono ?_
  rintro e w1 ⟨v0, rfl, hv0, b1⟩
  obtain ⟨nn, hnn⟩ : ∃ nn : Nat, nn = v0 + 1 := ⟨_, rfl⟩
  have e1 : 1 + (v0 : Int) = (nn : Int) := by omega
  have e2 : IntKind.i64.wrap (nn : Int) = (nn : Int) := by rw [IntKind.wrap_i64]; omega
  have nn0 : (1 : Int) ≤ (nn : Int) := by omega
  have nn1 : (nn : Int) ≤ 4 := by omega
  have HB1 := hide b1
  clear hv0 hnn b1
  have hS0 : S1 w 0 0 [] [] [] w1.heap.size 0 (w1.heap.size + 1) 0 ((w1.alloc (.cells #[] 9)).alloc (.cells #[] 22)) := by
    have hb := (unhide HB1).size
    refine ⟨?_, rfl, ?_, rfl, rfl, fun i hi => absurd hi (Nat.not_lt_zero i), fun x hx => (by cases hx), fun i hi => absurd hi (Nat.not_lt_zero i), bl_al (bl_al (unhide HB1))⟩
    · exact ⟨rfl, .inr ⟨w1.heap.size, 0, #[], rfl, hb, by rw [Below.heap_alloc _ _ _ (by simp)]; exact heap_at _ _ _ rfl, Nat.le_refl _, Nat.zero_le _, rfl, rfl⟩⟩
    · exact ⟨rfl, .inr ⟨w1.heap.size + 1, 0, #[], rfl, by omega, heap_at _ _ _ (by simp), Nat.le_refl _, Nat.zero_le _, rfl, rfl⟩⟩
  have HS0 := hide hS0
  clear hS0
  go_wp2
  go_loopw [6, 7, 8] (fun v6 v7 iv wr => ∃ (j : Nat) (fs : List ByteArray) (us : List Value) (xss : List (List ByteArray)) (g6 c6 g7 c7 : Nat), j ≤ nn + 1 ∧ iv = .int .i64 (j : Int) ∧ v6 = .slice (some ⟨g6, 0, none⟩) j c6 ∧ v7 = .slice (some ⟨g7, 0, none⟩) j c7 ∧ S1 w j j fs us xss g6 c6 g7 c7 wr) (fun _ _ iv _ => nn + 1 - (intOf iv).toNat)
  case atStart => exact ⟨0, [], [], [], _, 0, _, 0, Nat.zero_le _, rfl, rfl, rfl, unhide HS0⟩
  case round =>
    obtain ⟨j, fs, us, xss, g6, c6, g7, c7, hj, rfl, rfl, rfl, hS⟩ := hrel
    have q3 : (0 : Int) ≤ (j : Int) := by omega
    by_cases hlt : j ≤ nn
    · have q4 : (j : Int) ≤ (nn : Int) := by omega
      have q5 : (j : Int) < 256 := by omega
      have HS := hide hS
      have HJ := hide hlt
      generalize hxj : IntKind.u8.wrap (j : Int) = xj
      have hcv1 := byte_at ((wr.alloc (.cells #[.int .u8 xj] 5)).drew) wr.heap.size xj (heap_at _ _ _ rfl)
      clear hS hlt hj HS0
      go_wp2
      go_region_with (go_at_call 18; refine (unhide KBL _ (by first | exact bl_st (bl_dr (Below.refl _ _)) (unhide HS).be | exact bl_st (bl_dr (bl_al (Below.refl _ _))) (unhide HS).be)).mono ?_; rintro e w3 ⟨t, rfl, ht, b3⟩; (first | have hcv2 := byte_at w3 wr.heap.size xj ((b3.block _ (by simp)).trans (heap_at _ _ _ rfl)) | skip); have hcv3 := byte_at (w3.alloc (.cells #[.int .u8 xj] 5)) w3.heap.size xj (heap_at _ _ _ rfl))
      · have b4 : Below wr.heap.size wr w3 := bl_st b3 (bl_dr (bl_al (Below.refl _ _)))
        have hft : (strOfNums [xj] ++ t).size ≤ 400 := by
          rw [ByteArray.size_append, strOfNums_size, ht]; simp
        clear hcv1 hcv2 hcv3 ht b3
        generalize strOfNums [xj] ++ t = f at *
        have hS4 := (unhide HS).below b4
        have hf4 := hS4.f
        have hz4 := hS4.be.size
        have bn := one_str w3 f
        have HS4 := hide hS4
        have HFT := hide hft
        clear b4 hS4 hft HS
        go_wp2_with (at_builtin; refine wpList_append_strsL _ rfl _ _ rfl w.heap.size j _ fs rfl (hf4.alloc _) ⟨g6, c6, rfl⟩ _ [f] rfl bn (by simp; omega) (by simp; omega) ?_; intro g8 c8 w5 ho5 hg5 hw5)
        have hS5 := ((unhide HS4).below (bl_al (Below.refl _ _))).form ho5 hg5 hw5 (unhide HFT)
        have HS5 := hide hS5
        clear hf4 bn ho5 hg5 hw5 HS4 hz4
        refine (unhide KIT w5 hS5.be).mono ?_
        rintro e w6 ⟨gi, ci, ts, rfl, hl, hgd, ho6, b6⟩
        have bn := one_str w6 f
        have hz6 := b6.size
        have hz5 := hS5.be.size
        have HB6 := hide b6
        have HGD := hide hgd
        have HL := hide hl
        clear hS5 b6 hgd
        go_wp2_with (first
          | (at_builtin; refine wpList_append_strsL _ rfl _ _ rfl w5.heap.size ts.length _ ts rfl (ho6.alloc _) ⟨gi, ci, rfl⟩ _ [f] rfl bn (by simp; omega) (by simp; omega) ?_; intro g9 c9 w7 ho7 hg7 _; have b7 := Below.grown (bl_al (o := .cells #[.string f] 9) (unhide HB6)) hg7 (by simp; omega) (fun k e => by cases e; exact (row_at ho6).choose_spec.2); have hb7 := ((unhide HS5).below b7).b; have hz7 := b7.size; have ov := one_val w7 (.slice (some ⟨g9, 0, none⟩) (ts.length + 1) c9))
          | (at_builtin; refine wpList_append_vals _ rfl _ _ rfl w.heap.size j _ us rfl (hb7.alloc _) ⟨g7, c7, rfl⟩ _ [.slice (some ⟨g9, 0, none⟩) (ts.length + 1) c9] (fun u hu => by rw [List.mem_singleton.1 hu]; exact ⟨_, _, _, rfl⟩) rfl ov (by simp) (by simp; omega) (by simp; omega) ?_; intro g10 c10 w8 ho8 hg8 _))
        go_roundw
        case rel =>
          obtain ⟨rs9, r9⟩ := row_strs ho7
          obtain ⟨cur9, q9, l9⟩ := row_at ho7
          obtain ⟨cur8, q8, l8⟩ := row_at (unhide HS5).f
          have hlt8 := (Array.getElem?_eq_some_iff.1 q8).1
          have el : (ts ++ [f]).length = ts.length + 1 := by rw [List.length_append]; rfl
          have hS8 := (((unhide HS5).below b7).below (bl_al (o := .cells #[.slice (some ⟨g9, 0, none⟩) (ts.length + 1) c9] 22) (Below.refl _ _))).batch (xs := ts ++ [f]) (rest := rs9) (gi := g9) (ci := c9) ((Below.heap_alloc _ _ _ (Array.getElem?_eq_some_iff.1 r9).1).trans r9) (by omega) ⟨by rw [el]; have := unhide HL; omega, fun x hx => by
            rcases List.mem_append.1 hx with hx | hx
            · exact unhide HGD x hx
            · rw [List.mem_singleton.1 hx]; exact unhide HFT, by rw [getD_snoc _ _ _ _ (by have := (unhide HS5).fl; rw [List.length_append] at this; simpa using this)]; exact inB_last f ts⟩ (by rw [el]; exact ho8) hg8
          exact ⟨j + 1, fs ++ [f], _, _, g8, c8, g10, c10, by have := unhide HJ; omega, by go_num, rfl, rfl, hS8⟩
        case measure => have := unhide HJ; simp [intOf]; omega
      · have b4 : Below wr.heap.size wr w3 := bl_st b3 (bl_dr (bl_al (Below.refl _ _)))
        have hft : (strOfNums [xj] ++ t).size ≤ 400 := by
          rw [ByteArray.size_append, strOfNums_size, ht]; simp
        clear hcv1 hcv2 hcv3 ht b3
        generalize strOfNums [xj] ++ t = f at *
        have hS4 := (unhide HS).below b4
        have hf4 := hS4.f
        have hz4 := hS4.be.size
        have bn := one_str w3 f
        have HS4 := hide hS4
        have HFT := hide hft
        clear b4 hS4 hft HS
        go_wp2_with (at_builtin; refine wpList_append_strsL _ rfl _ _ rfl w.heap.size j _ fs rfl (hf4.alloc _) ⟨g6, c6, rfl⟩ _ [f] rfl bn (by simp; omega) (by simp; omega) ?_; intro g8 c8 w5 ho5 hg5 hw5)
        have hS5 := ((unhide HS4).below (bl_al (Below.refl _ _))).form ho5 hg5 hw5 (unhide HFT)
        have HS5 := hide hS5
        clear hf4 bn ho5 hg5 hw5 HS4 hz4
        refine (unhide KIT w5 hS5.be).mono ?_
        rintro e w6 ⟨gi, ci, ts, rfl, hl, hgd, ho6, b6⟩
        have bn := one_str w6 f
        have hz6 := b6.size
        have hz5 := hS5.be.size
        have HB6 := hide b6
        have HGD := hide hgd
        have HL := hide hl
        clear hS5 b6 hgd
        go_wp2_with (first
          | (at_builtin; refine wpList_append_strsL _ rfl _ _ rfl w5.heap.size ts.length _ ts rfl (ho6.alloc _) ⟨gi, ci, rfl⟩ _ [f] rfl bn (by simp; omega) (by simp; omega) ?_; intro g9 c9 w7 ho7 hg7 _; have b7 := Below.grown (bl_al (o := .cells #[.string f] 9) (unhide HB6)) hg7 (by simp; omega) (fun k e => by cases e; exact (row_at ho6).choose_spec.2); have hb7 := ((unhide HS5).below b7).b; have hz7 := b7.size; have ov := one_val w7 (.slice (some ⟨g9, 0, none⟩) (ts.length + 1) c9))
          | (at_builtin; refine wpList_append_vals _ rfl _ _ rfl w.heap.size j _ us rfl (hb7.alloc _) ⟨g7, c7, rfl⟩ _ [.slice (some ⟨g9, 0, none⟩) (ts.length + 1) c9] (fun u hu => by rw [List.mem_singleton.1 hu]; exact ⟨_, _, _, rfl⟩) rfl ov (by simp) (by simp; omega) (by simp; omega) ?_; intro g10 c10 w8 ho8 hg8 _))
        go_roundw
        case rel =>
          obtain ⟨rs9, r9⟩ := row_strs ho7
          obtain ⟨cur9, q9, l9⟩ := row_at ho7
          obtain ⟨cur8, q8, l8⟩ := row_at (unhide HS5).f
          have hlt8 := (Array.getElem?_eq_some_iff.1 q8).1
          have el : (ts ++ [f]).length = ts.length + 1 := by rw [List.length_append]; rfl
          have hS8 := (((unhide HS5).below b7).below (bl_al (o := .cells #[.slice (some ⟨g9, 0, none⟩) (ts.length + 1) c9] 22) (Below.refl _ _))).batch (xs := ts ++ [f]) (rest := rs9) (gi := g9) (ci := c9) ((Below.heap_alloc _ _ _ (Array.getElem?_eq_some_iff.1 r9).1).trans r9) (by omega) ⟨by rw [el]; have := unhide HL; omega, fun x hx => by
            rcases List.mem_append.1 hx with hx | hx
            · exact unhide HGD x hx
            · rw [List.mem_singleton.1 hx]; exact unhide HFT, by rw [getD_snoc _ _ _ _ (by have := (unhide HS5).fl; rw [List.length_append] at this; simpa using this)]; exact inB_last f ts⟩ (by rw [el]; exact ho8) hg8
          exact ⟨j + 1, fs ++ [f], _, _, g8, c8, g10, c10, by have := unhide HJ; omega, by go_num, rfl, rfl, hS8⟩
        case measure => have := unhide HJ; simp [intOf]; omega
      · have b4 : Below wr.heap.size wr (w3.alloc (.cells #[.int .u8 xj] 5)) := bl_al (bl_st b3 (bl_dr (Below.refl _ _)))
        have hft : (strOfNums [xj] ++ t).size ≤ 400 := by
          rw [ByteArray.size_append, strOfNums_size, ht]; simp
        clear hcv1 hcv3 ht b3
        generalize w3.alloc (.cells #[.int .u8 xj] 5) = w4 at *
        generalize strOfNums [xj] ++ t = f at *
        have hS4 := (unhide HS).below b4
        have hf4 := hS4.f
        have hz4 := hS4.be.size
        have bn := one_str w4 f
        have HS4 := hide hS4
        have HFT := hide hft
        clear b4 hS4 hft HS
        go_wp2_with (at_builtin; refine wpList_append_strsL _ rfl _ _ rfl w.heap.size j _ fs rfl (hf4.alloc _) ⟨g6, c6, rfl⟩ _ [f] rfl bn (by simp; omega) (by simp; omega) ?_; intro g8 c8 w5 ho5 hg5 hw5)
        have hS5 := ((unhide HS4).below (bl_al (Below.refl _ _))).form ho5 hg5 hw5 (unhide HFT)
        have HS5 := hide hS5
        clear hf4 bn ho5 hg5 hw5 HS4 hz4
        refine (unhide KIT w5 hS5.be).mono ?_
        rintro e w6 ⟨gi, ci, ts, rfl, hl, hgd, ho6, b6⟩
        have bn := one_str w6 f
        have hz6 := b6.size
        have hz5 := hS5.be.size
        have HB6 := hide b6
        have HGD := hide hgd
        have HL := hide hl
        clear hS5 b6 hgd
        go_wp2_with (first
          | (at_builtin; refine wpList_append_strsL _ rfl _ _ rfl w5.heap.size ts.length _ ts rfl (ho6.alloc _) ⟨gi, ci, rfl⟩ _ [f] rfl bn (by simp; omega) (by simp; omega) ?_; intro g9 c9 w7 ho7 hg7 _; have b7 := Below.grown (bl_al (o := .cells #[.string f] 9) (unhide HB6)) hg7 (by simp; omega) (fun k e => by cases e; exact (row_at ho6).choose_spec.2); have hb7 := ((unhide HS5).below b7).b; have hz7 := b7.size; have ov := one_val w7 (.slice (some ⟨g9, 0, none⟩) (ts.length + 1) c9))
          | (at_builtin; refine wpList_append_vals _ rfl _ _ rfl w.heap.size j _ us rfl (hb7.alloc _) ⟨g7, c7, rfl⟩ _ [.slice (some ⟨g9, 0, none⟩) (ts.length + 1) c9] (fun u hu => by rw [List.mem_singleton.1 hu]; exact ⟨_, _, _, rfl⟩) rfl ov (by simp) (by simp; omega) (by simp; omega) ?_; intro g10 c10 w8 ho8 hg8 _))
        go_roundw
        case rel =>
          obtain ⟨rs9, r9⟩ := row_strs ho7
          obtain ⟨cur9, q9, l9⟩ := row_at ho7
          obtain ⟨cur8, q8, l8⟩ := row_at (unhide HS5).f
          have hlt8 := (Array.getElem?_eq_some_iff.1 q8).1
          have el : (ts ++ [f]).length = ts.length + 1 := by rw [List.length_append]; rfl
          have hS8 := (((unhide HS5).below b7).below (bl_al (o := .cells #[.slice (some ⟨g9, 0, none⟩) (ts.length + 1) c9] 22) (Below.refl _ _))).batch (xs := ts ++ [f]) (rest := rs9) (gi := g9) (ci := c9) ((Below.heap_alloc _ _ _ (Array.getElem?_eq_some_iff.1 r9).1).trans r9) (by omega) ⟨by rw [el]; have := unhide HL; omega, fun x hx => by
            rcases List.mem_append.1 hx with hx | hx
            · exact unhide HGD x hx
            · rw [List.mem_singleton.1 hx]; exact unhide HFT, by rw [getD_snoc _ _ _ _ (by have := (unhide HS5).fl; rw [List.length_append] at this; simpa using this)]; exact inB_last f ts⟩ (by rw [el]; exact ho8) hg8
          exact ⟨j + 1, fs ++ [f], _, _, g8, c8, g10, c10, by have := unhide HJ; omega, by go_num, rfl, rfl, hS8⟩
        case measure => have := unhide HJ; simp [intOf]; omega
    · obtain rfl : j = nn + 1 := by omega
      have q4 : (nn : Int) < ((nn + 1 : Nat) : Int) := by omega
      have HS := hide hS
      clear hlt hj HS0 hS
      obtain ⟨N, hN⟩ : ∃ N, N = nn + 1 := ⟨_, rfl⟩
      rw [← hN] at HS q4 q3 ⊢
      have HN := hide hN
      have N5 : (N : Int) ≤ 5 := by omega
      have N2 : (2 : Int) ≤ (N : Int) := by omega
      clear hN
      go_wp2_with fail
      refine (unhide KAT wr 1 nn (unhide HS).be (by omega) (by omega) (by omega)).mono ?_
      rintro e w2 ⟨lost, rfl, hlost, b2⟩
      have hS2 := (unhide HS).below b2
      have HS2 := hide hS2
      have HL := hide hlost
      have l0 : (0 : Int) ≤ (lost : Int) := by omega
      have l1 : (lost : Int) < (nn : Int) := by omega
      have hs2 : valV (w2.alloc (.cells #[] 22)) (.slice (some ⟨g7, 0, none⟩) N c7) us := by
        obtain ⟨rs, r⟩ := row_ss (hS2.below (bl_al (o := .cells #[] 22) (Below.refl _ _))).b
        have := val_of_ssO (c := c7) r
        rwa [hS2.ul] at this
      have hu0 : 0 < us.length := by rw [hS2.ul]; omega
      have huN : us.length ≤ 5 := by rw [hS2.ul]; omega
      have eus : us.length = N := hS2.ul
      have hal := hS2.all
      have hz2 := hS2.be.size
      have om : (w2.alloc (.cells #[] 22)).ownsRow w2.heap.size 22 1 (.slice (some ⟨w2.heap.size, 0, none⟩) 0 0) 0 [] := ⟨rfl, .inr ⟨w2.heap.size, 0, #[], rfl, Nat.le_refl _, heap_at _ _ _ rfl, Nat.le_refl _, Nat.zero_le _, rfl, rfl⟩⟩
      clear hS2 hlost b2 HS KAT KBL KIT HB1
      go_wp2_with (at_builtin; refine wpList_append_vals _ rfl _ _ rfl w2.heap.size 0 _ [] rfl om ⟨_, _, rfl⟩ _ us hal rfl hs2 hu0 (by omega) (by simp) ?_; intro g11 c11 w3 ho3 hg3 _)
      have hb3 : Below w2.heap.size w2 w3 := Below.grown (bl_al (Below.refl _ _)) hg3 (by simp) (fun k e => by cases e; exact Nat.le_refl _)
      have hS3 : S2 w N lost (lost + 1) fs us xss g6 g7 g11 us xss w3 := by
        have h := (unhide HS2).below hb3
        obtain ⟨cur7, r7, _⟩ := row_at (unhide HS2).b
        have hl7 := (Array.getElem?_eq_some_iff.1 r7).1
        obtain ⟨cur11, r11, l11⟩ := row_at ho3
        obtain ⟨rs, h11⟩ := row_ss ho3
        refine ⟨h.fix, ⟨rs, by simpa using h11⟩, by omega, by omega, h.ul, h.xl, h.fix.x, fun i _ => ?_⟩
        rw [if_neg (by omega)]
      rw [show 0 + us.length = N by omega] at *
      have HS3 := hide hS3
      clear hb3 hS3 ho3 hg3 om hs2 hal hu0 huN eus hz2 HS2
      go_loopw [12] (fun iv wr => ∃ (i : Nat) (vs : List Value) (yss : List (List ByteArray)), lost < i ∧ i ≤ N ∧ iv = .int .i64 (i : Int) ∧ S2 w N lost i fs us xss g6 g7 g11 vs yss wr) (fun iv _ => N - (intOf iv).toNat)
      case atStart => exact ⟨lost + 1, us, xss, by omega, by have := unhide HN; have := unhide HL; omega, by go_num, unhide HS3⟩
      case round =>
        obtain ⟨i, vs, yss, hi0, hi1, rfl, hS⟩ := hrel
        obtain ⟨w5, hw5⟩ : ∃ w5, w5 = wr := ⟨_, rfl⟩
        subst hw5
        have i0 : (0 : Int) ≤ (i : Int) := by omega
        by_cases hlt : i < N
        · have i1 : (i : Int) < (N : Int) := by omega
          have i2 : (i : Int) ≤ (nn : Int) := by have := unhide HN; omega
          obtain ⟨rb, hb7⟩ := hS.o.b
          obtain ⟨rf, hf6⟩ := hS.o.f
          obtain ⟨bi, ci, ri, eu, hbi⟩ := hS.o.x i hlt
          have p7 := cell_ssO hb7 i (by rw [hS.o.ul]; exact hlt)
          rw [eu] at p7
          have p6 := cell_strO hf6 i (by rw [hS.o.fl]; exact hlt)
          obtain ⟨xs, hxs⟩ : ∃ xs, xs = xss.getD i [] := ⟨_, rfl⟩
          obtain ⟨f, hff⟩ : ∃ f, f = fs.getD i noS := ⟨_, rfl⟩
          rw [← hxs] at p7 hbi
          rw [← hff] at p6
          have hl8 : xs.length ≤ 8 := by rw [hxs]; exact (hS.o.gx i hlt).1
          have pk := fun k hk => cell_strO hbi k hk
          have b7l := (Array.getElem?_eq_some_iff.1 hb7).1
          have f6l := (Array.getElem?_eq_some_iff.1 hf6).1
          have bil := (Array.getElem?_eq_some_iff.1 hbi).1
          have P7 := hide (fun (W : World) (hb : Below w5.heap.size w5 W) => (cell_below hb b7l).trans p7)
          have P6 := hide (fun (W : World) (hb : Below w5.heap.size w5 W) => (cell_below hb f6l).trans p6)
          have PK := hide (fun (W : World) (hb : Below w5.heap.size w5 W) (k : Nat) (hk : k < xs.length) => (cell_below (i := k) hb bil).trans (pk k hk))
          have HS := hide hS
          have HX := hide hxs
          have HF := hide hff
          have HI := hide hlt
          have HI0 := hide hi0
          have L8 := hide hl8
          have xl0 : (0 : Int) ≤ (xs.length : Int) := by omega
          have xl1 : (xs.length : Int) ≤ 8 := by omega
          have om : Hid ((w5.alloc (.cells #[] 9)).ownsRow w5.heap.size 9 1 (.slice (some ⟨w5.heap.size, 0, none⟩) 0 0) 0 ([] : List Value)) := hide ⟨rfl, .inr ⟨w5.heap.size, 0, #[], rfl, Nat.le_refl _, heap_at _ _ _ rfl, Nat.le_refl _, Nat.zero_le _, rfl, rfl⟩⟩
          clear hb7 hf6 hbi eu p7 p6 pk b7l f6l bil hS hxs hff hlt hi0 hi1 hl8
          go_wp2
          go_loopw [13, 14] (fun v13 kv wr => ∃ (k g c : Nat), k ≤ xs.length ∧ kv = .int .i64 (k : Int) ∧ v13 = .slice (some ⟨g, 0, none⟩) (fl f (xs.take k)).length c ∧ wr.ownsRow w5.heap.size 9 1 (.slice (some ⟨g, 0, none⟩) (fl f (xs.take k)).length c) (fl f (xs.take k)).length ((fl f (xs.take k)).map Value.string) ∧ Below w5.heap.size w5 wr) (fun _ kv _ => xs.length - (intOf kv).toNat)
          case atStart => exact ⟨0, w5.heap.size, 0, Nat.zero_le _, rfl, rfl, unhide om, bl_al (Below.refl _ _)⟩
          case round =>
            obtain ⟨k, g, c, hk, rfl, rfl, hown, hbl⟩ := hrel
            have k0 : (0 : Int) ≤ (k : Int) := by omega
            have p7 := unhide P7 wr hbl
            have p6 := unhide P6 wr hbl
            by_cases hlt : k < xs.length
            · have k1 : (k : Int) < (xs.length : Int) := by omega
              have pk := unhide PK wr hbl k hlt
              have HK := hide hlt
              have HOW := hide hown
              have HBL := hide hbl
              by_cases e : xs.getD k noS = f
              · have HT := hide (fl_take_no hlt e)
                rw [e] at pk
                clear hlt hk hown hbl e om
                go_wp2
                go_quiet (fail)
                clear pk p6 p7
                go_wp2
                go_roundw
                case rel => exact ⟨k + 1, g, c, unhide HK, by go_num, by rw [unhide HT], by rw [unhide HT]; exact kept_below (unhide HOW) (below_drewN (Below.refl _ _) nq), below_drewN (unhide HBL) nq⟩
                case measure => have := unhide HK; simp [intOf]; omega
              · have HT := hide (fl_take_yes hlt e)
                have hfl : (fl f (xs.take k)).length ≤ 8 := Nat.le_trans (fl_len _ _) (by rw [List.length_take]; have := unhide L8; omega)
                generalize hx : xs.getD k noS = x at *
                have ee : (x.toList == f.toList) = false := by rw [beq_txt]; exact decide_eq_false e
                have HX2 := hide hx
                clear hlt hk hown hbl e om hx
                go_wp2
                go_quiet (fail)
                have hown5 := kept_below (unhide HOW) (below_drewN (Below.refl _ wr) nq)
                have hz5 := (below_drewN (unhide HBL) nq).size
                have r7 : (wr.drewN nq).cell? ⟨g7, i, none⟩ = some (.slice (some ⟨bi, 0, none⟩) xs.length ci) := p7
                have rk : (wr.drewN nq).cell? ⟨bi, k, none⟩ = some (.string x) := pk
                have HB5 := hide (below_drewN (unhide HBL) nq)
                clear pk p6 p7
                generalize wr.drewN nq = w6 at *
                have bn := one_str w6 x
                generalize hys : fl f (xs.take k) = ys at *
                have HYS := hide hys
                clear hys
                go_wp2_with (at_builtin; refine wpList_append_strsL _ rfl _ _ rfl w5.heap.size ys.length _ ys rfl (hown5.alloc _) ⟨g, c, rfl⟩ _ [x] rfl bn (by simp; omega) (by simp; omega) ?_; intro g8 c8 w7 ho7 hg7 _)
                go_roundw
                case rel =>
                  refine ⟨k + 1, g8, c8, unhide HK, by go_num, by rw [unhide HT, List.length_append]; rfl, by rw [unhide HT, List.length_append]; exact ho7, ?_⟩
                  exact Below.grown (bl_al (unhide HB5)) hg7 (by simp; omega) (fun kk e => by cases e; exact (row_at hown5).choose_spec.2)
                case measure => have := unhide HK; simp [intOf]; omega
            · obtain rfl : k = xs.length := by omega
              have hS6 := (unhide HS).below hbl
              obtain ⟨r11, h11⟩ := hS6.b
              have c11' := cell_ssO h11 i (by rw [hS6.vl]; exact unhide HI)
              have f11 := free_ssO h11 i
              obtain ⟨Av, nv, cv, ev⟩ := (hS6.x i (unhide HI)).slice
              rw [ev] at c11'
              rw [List.take_length] at hown ⊢
              obtain ⟨rs, hrow⟩ := row_strs hown
              have HP := hide (hS6.put (u := .slice (some ⟨g, 0, none⟩) (fl f xs).length c) (unhide HI) (unhide HI0) ⟨g, c, rs, by rw [← unhide HX, ← unhide HF], by rw [← unhide HX, ← unhide HF]; exact hrow⟩)
              clear hlt hk hown hbl om hS6 h11 ev hrow
              go_wp2
              go_roundw
              case rel => exact ⟨i + 1, _, _, by have := unhide HI0; omega, unhide HI, by go_num, unhide HP⟩
              case measure => have := unhide HI; simp [intOf]; omega
        · obtain rfl : i = N := by omega
          have i1 : (nn : Int) < (i : Int) := by have := unhide HN; omega
          have hV : strsV w5 (.slice (some ⟨g6, 0, none⟩) i c6) fs := hS.o.forms
          have hB : lssV w5 (.slice (some ⟨g7, 0, none⟩) i c7) xss := by
            obtain ⟨rs, r⟩ := hS.o.b
            exact lss_ssO r hS.o.ul hS.o.xl hS.o.x
          have hB2 : lssV w5 (.slice (some ⟨g11, 0, none⟩) i c11) yss := by
            obtain ⟨rs, r⟩ := hS.b
            exact lss_ssO r hS.vl hS.yl hS.x
          have hgx : ∀ j, j < i → (xss.getD j []).length ≤ 64 ∧ goodT (xss.getD j []) := fun j hj => ⟨by have := (hS.o.gx j hj).1; omega, (hS.o.gx j hj).2.1⟩
          have hgy : ∀ j, j < i → (yss.getD j []).length ≤ 64 ∧ goodT (yss.getD j []) := fun j hj => by
            rw [hS.y j hj]
            split
            · exact ⟨Nat.le_trans (fl_len _ _) (hgx j hj).1, fl_good (hgx j hj).2⟩
            · exact hgx j hj
          have N5' : i ≤ 5 := by omega
          have cx : bC fs xss = 0 := bC_good hS.o.fl hS.o.xl N5' hS.o.gf hgx
          have cy : bC fs yss = 0 := bC_good hS.o.fl hS.yl N5' hS.o.gf hgy
          have px : bP fs xss = (0, false) := by rw [bP_is cx]; exact blm_all hS.o.fl (fun j hj => (hS.o.gx j hj).2.2)
          have hli : lost + 1 < i := by have := unhide HN; have := unhide HL; omega
          have py : bP fs yss = ((lost : Int), true) := by
            rw [bP_is cy]
            refine blm_lost hS.o.fl hli (fun j hj => ?_) ?_
            · rw [hS.y j (by omega), if_neg (by omega)]; exact (hS.o.gx j (by omega)).2.2
            · rw [hS.y (lost + 1) hli, if_pos ⟨by omega, hli⟩]; exact inB_fl _ _
          have fx : fewL xss := ⟨by rw [hS.o.xl]; omega, fun j hj => by have := (hgx j (by rw [← hS.o.xl]; exact hj)).1; omega⟩
          have fy : fewL yss := ⟨by rw [hS.yl]; omega, fun j hj => by have := (hgy j (by rw [← hS.yl]; exact hj)).1; omega⟩
          have lf : fs.length ≤ 1048576 := by rw [hS.o.fl]; omega
          have K1 : Hid (∀ W, Below w5.heap.size w5 W → Calls Try.prog 14 #[.slice (some ⟨g6, 0, none⟩) i c6, .slice (some ⟨g7, 0, none⟩) i c7] W fun e w' => e = .returned (.tuple #[vV 0 false, .int .i64 0]) ∧ Below W.heap.size W w') := hide fun W hb => by
            have h := blame14 _ _ fs xss W (hV.below hb) (hB.below hb) lf fx
            unfold outB at h
            rw [px, cx] at h
            exact h
          have K2 : Hid (∀ W, Below w5.heap.size w5 W → Calls Try.prog 14 #[.slice (some ⟨g6, 0, none⟩) i c6, .slice (some ⟨g11, 0, none⟩) i c11] W fun e w' => e = .returned (.tuple #[vV (lost : Int) true, .int .i64 0]) ∧ Below W.heap.size W w') := hide fun W hb => by
            have h := blame14 _ _ fs yss W (hV.below hb) (hB2.below hb) lf fy
            unfold outB at h
            rw [py, cy] at h
            exact h
          have K3 : Hid (∀ W, Below w5.heap.size w5 W → Calls Try.prog 12 #[.slice (some ⟨g6, 0, none⟩) i c6, .slice (some ⟨g11, 0, none⟩) i c11] W fun e w' => e = .returned (.tuple #[vV (lost : Int) true, .int .i64 0]) ∧ Below W.heap.size W w') := hide fun W hb => by
            have h := blame12 _ _ fs yss W (hV.below hb) (hB2.below hb) lf fy
            unfold outB at h
            rw [py, cy] at h
            exact h
          have HBE := hide hS.o.be
          clear hV hB hB2 hgx hgy N5' cx cy px py hli fx fy lf hS hlt hi0 hi1 HS3
          go_wp2_with fail
          refine (unhide K1 w5 (Below.refl _ _)).mono ?_
          rintro e w6 ⟨rfl, b6⟩
          have N6 := hide (newV w6 0 false)
          have B6 := hide b6
          clear b6 K1
          go_wp2_with fail
          generalize w6.alloc (.cells #[.int .i64 0, .bool false] 32) = w7 at *
          have B7 := hide (bl_st (unhide N6).1 (unhide B6))
          have R7 := hide (unhide N6).2
          generalize w6.heap.size = ga at *
          clear N6 B6
          refine (unhide K2 w7 (unhide B7)).mono ?_
          rintro e w8 ⟨rfl, b8⟩
          have N8 := hide (newV w8 (lost : Int) true)
          have B8 := hide (bl_st b8 (unhide B7))
          have R8 := hide ((b8.block _ (Array.getElem?_eq_some_iff.1 (unhide R7)).1).trans (unhide R7))
          clear b8 K2 B7 R7
          go_wp2_with fail
          generalize w8.alloc (.cells #[.int .i64 (lost : Int), .bool true] 32) = w9 at *
          have B9 := hide (bl_st (unhide N8).1 (unhide B8))
          have R9 := hide (((unhide N8).1.block _ (Array.getElem?_eq_some_iff.1 (unhide R8)).1).trans (unhide R8))
          have T9 := hide (unhide N8).2
          generalize w8.heap.size = gb at *
          clear N8 B8 R8
          refine (unhide K3 w9 (unhide B9)).mono ?_
          rintro e wa ⟨rfl, ba⟩
          have Na := newV wa (lost : Int) true
          have Ba := hide (bl_st ba (unhide B9))
          have Ra := (Na.1.block _ (Nat.lt_of_lt_of_le (Array.getElem?_eq_some_iff.1 (unhide R9)).1 ba.size)).trans ((ba.block _ (Array.getElem?_eq_some_iff.1 (unhide R9)).1).trans (unhide R9))
          have Ta := (Na.1.block _ (Nat.lt_of_lt_of_le (Array.getElem?_eq_some_iff.1 (unhide T9)).1 ba.size)).trans ((ba.block _ (Array.getElem?_eq_some_iff.1 (unhide T9)).1).trans (unhide T9))
          have Sa := Na.2
          have a1 := row_cell (i := 1) Ra
          have t0 := row_cell (i := 0) Ta
          have t1 := row_cell (i := 1) Ta
          have s0 := row_cell (i := 0) Sa
          have s1 := row_cell (i := 1) Sa
          have BE := hide (bl_st (bl_st Na.1 (unhide Ba)) (unhide HBE))
          have ll : ((lost : Int) == (lost : Int)) = true := by simp
          clear ba K3 B9 R9 T9 Na Ra Ta Sa Ba
          go_wp2
          go_ret
          exact ⟨rfl, unhide BE⟩
end Go.Proofs.Ytecgfkfifocbaaa
