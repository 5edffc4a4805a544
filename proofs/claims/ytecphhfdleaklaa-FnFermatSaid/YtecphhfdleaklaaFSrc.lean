/- A number of the field drawn of a source: FieldOf2. -/
import Derived.Test.YtecphhfdleaklaaSrc
import Derived.Test.YtecphhfdleaklaaOpInv
import Derived.Test.YtecphhfdleaklaaMark
namespace Go.Proofs.Ytecphhfdleaklaa
open Go.RowKit
set_option maxHeartbeats 4000000
set_option maxRecDepth 20000
theorem grown_below {w w1 w2 : World} {p : Nat} (h : w.grownBy w1 (some p)) (hb : Below w1.heap.size w1 w2) : w.grownBy w2 (some p) :=
  ⟨hb.os.trans h.os, hb.tape.trans h.tape, hb.output.trans h.output, Nat.le_trans h.size hb.size, fun k hk hne => (hb.block k (Nat.lt_of_lt_of_le hk h.size)).trans (h.block k hk hne)⟩
theorem conv_rowL (w : World) (b cap n : Nat) (xs : List Int) (rest : List Value) (hb : b < w.heap.size) (hn : xs.length = n) :
    (convert 22 9 (.slice (some ⟨b, 0, none⟩) n cap)).run Try.prog (rowL w b 5 .u8 xs rest) = .ok (.string (strOfNums xs)) (rowL w b 5 .u8 xs rest) := by
  refine run_convert_bytes_arg _ 22 5 Try.underlying22 Try.underlying5 b 0 n cap xs hn ?_ 9 Try.underlying9
  intro i hi
  rw [Nat.zero_add, cell_row _ _ _ _ _ _ _ (by omega) hb]
theorem less_any (n : Int) (h0 : 1 ≤ n) (h1 : n ≤ 40) (w : World) : Calls Try.prog 98 #[.int .i64 n] w fun e w' => ∃ t : ByteArray, e = .returned (.string t) ∧ t.size = 32 ∧ Below w.heap.size w w' := by
  have hm := make32
  go_enter Try.func98, Try.ntmps98
  go_wp2
  clear hm
  generalize hO : Obj.cells #[.int .u8 0, .int .u8 0, .int .u8 0, .int .u8 0, .int .u8 0, .int .u8 0, .int .u8 0, .int .u8 0, .int .u8 0, .int .u8 0, .int .u8 0, .int .u8 0, .int .u8 0, .int .u8 0, .int .u8 0, .int .u8 0, .int .u8 0, .int .u8 0, .int .u8 0, .int .u8 0, .int .u8 0, .int .u8 0, .int .u8 0, .int .u8 0, .int .u8 0, .int .u8 0, .int .u8 0, .int .u8 0, .int .u8 0, .int .u8 0, .int .u8 0, .int .u8 0] 5 = O
  have hx : ∃ xs : List Int, xs.length = 32 ∧ w.alloc O = rowL (w.alloc O) w.heap.size 5 .u8 xs [] :=
    ⟨List.replicate 32 0, rfl, (row_same _ _ _ _ _ _ (by rw [heap_alloc_new, ← hO]; rfl)).symm⟩
  clear hO
  go_loopw [4] (fun c wr => ∃ k : Nat, k ≤ 32 ∧ c = .int .i64 k ∧ ∃ xs : List Int, xs.length = 32 ∧ wr = rowL (w.alloc O) w.heap.size 5 .u8 xs []) (fun c _ => 32 - (intOf c).toNat)
  case atStart => obtain ⟨xs, hl, e⟩ := hx; exact ⟨0, by omega, rfl, xs, hl, e⟩
  case round =>
    clear hx
    obtain ⟨k, hk, rfl, xs, hl, rfl⟩ := hrel
    by_cases hlt : k < 32
    · go_wp2
      go_roundw
      case rel => exact ⟨k + 1, by omega, by go_num, _, by simpa using hl, rfl⟩
      case measure => simp [intOf]; omega
    · obtain rfl : k = 32 := by omega
      have hcv := conv_rowL (w.alloc O) w.heap.size 32 32 ((xs.set 31 127).set 0 (256 - n)) [] (by simp) (by simpa using hl)
      go_wp2
      go_ret
      exact ⟨_, rfl, by rw [strOfNums_size]; simpa using hl, below_row _ _ _ _ _ _ ((Below.refl _ _).alloc (Nat.le_refl _) _) (Nat.le_refl _)⟩
theorem make31' (w : World) : (Instr.makeSlice 22 (.int .i64 31) (.int .i64 31)).run Try.prog w = .ok (.slice (some ⟨w.heap.size, 0, none⟩) 31 31) (w.alloc (.cells (Array.replicate 31 (.int .u8 0)) 5)) := by kernel_rfl
theorem make32' (w : World) : (Instr.makeSlice 22 (.int .i64 32) (.int .i64 32)).run Try.prog w = .ok (.slice (some ⟨w.heap.size, 0, none⟩) 32 32) (w.alloc (.cells (Array.replicate 32 (.int .u8 0)) 5)) := by kernel_rfl
theorem conv_rep (w : World) (b n : Nat) (h : w.heap[b]? = some (.cells (Array.replicate n (.int .u8 0)) 5)) : (convert 22 9 (.slice (some ⟨b, 0, none⟩) n n)).run Try.prog w = .ok (.string (strOfNums (List.replicate n 0))) w := by
  refine run_convert_bytes_arg _ 22 5 Try.underlying22 Try.underlying5 b 0 n n (List.replicate n 0) (by simp) ?_ 9 Try.underlying9
  intro i hi
  rw [Nat.zero_add, List.getD_eq_getElem?_getD, List.getElem?_replicate, if_pos hi]
  unfold World.cell?
  rw [show (⟨b, i, none⟩ : Addr).block = b from rfl, h]
  show (Array.replicate n (Value.int .u8 0))[i]? = _
  rw [Array.getElem?_replicate, if_pos hi]
  rfl
theorem conv_rep_new (w : World) (n : Nat) : (convert 22 9 (.slice (some ⟨w.heap.size, 0, none⟩) n n)).run Try.prog (w.alloc (.cells (Array.replicate n (.int .u8 0)) 5)) = .ok (.string (strOfNums (List.replicate n 0))) (w.alloc (.cells (Array.replicate n (.int .u8 0)) 5)) := conv_rep _ _ _ (heap_alloc_new w _)
theorem codeIn_src {w : World} {d p n m cap : Nat} {A B : Option Addr} {a s : Int} (h : codeIn w p A n) : codeIn (srcW w d p B m cap a s) p A n := codeIn_grown h (grown_src (World.grownBy.refl _ _))
theorem conv_at (Y : World) (b n : Nat) (xs : List Int) (h : Y.heap[b]? = some (.cells (xs.map (Value.int .u8)).toArray 5)) (hn : xs.length = n) : (convert 22 9 (.slice (some ⟨b, 0, none⟩) n n)).run Try.prog Y = .ok (.string (strOfNums xs)) Y := by
  refine run_convert_bytes_arg _ 22 5 Try.underlying22 Try.underlying5 b 0 n n xs hn ?_ 9 Try.underlying9
  intro i hi
  rw [Nat.zero_add]
  unfold World.cell?
  rw [show (⟨b, i, none⟩ : Addr).block = b from rfl, h]
  show (xs.map (Value.int .u8)).toArray[i]? = _
  rw [List.getElem?_toArray, List.getElem?_map, List.getD_eq_getElem?_getD, List.getElem?_eq_getElem (by omega)]
  rfl
def z31 : ByteArray := strOfNums (List.replicate 31 0)
def oneS (x : Int) : ByteArray := strOfNums [x]
theorem one_size (x : Int) : (oneS x).size = 1 := strOfNums_size _
theorem z31_size : z31.size = 31 := by unfold z31; rw [strOfNums_size]; simp
abbrev o31 : Obj := .cells (Array.replicate 31 (.int .u8 0)) 5
theorem o31_eq : o31 = .cells ((List.replicate 31 (0 : Int)).map (Value.int .u8)).toArray 5 := rfl
theorem at_new (Y : World) (o : Obj) (b : Nat) (h : b = Y.heap.size) : (Y.alloc o).heap[b]? = some o := by subst h; exact heap_alloc_new Y o
theorem at_old (Y : World) (o : Obj) (b : Nat) (h : b < Y.heap.size) : (Y.alloc o).heap[b]? = Y.heap[b]? := Below.heap_alloc Y o b h
theorem raw_any (w : World) (p : Nat) (A : Option Addr) (n cap k : Nat) (s : Int) (hs : w.heap[p]? = some (srcO A n cap k s)) (hn : n ≤ maxLen) (hk : k + 100 < 4611686018427387904) (s0 : 0 ≤ s) (s1 : s < 2147483648) (hc : codeIn w p A n) :
    Calls Try.prog 89 #[.pointer (some ⟨p, 0, none⟩)] w fun e w' => ∃ t : ByteArray, e = .returned (.string t) ∧ t.size = 32 ∧ w.grownBy w' (some p) := by
  have hp := (Array.getElem?_eq_some_iff.1 hs).1
  have m32 := make32'
  have c32 := fun w => conv_rep_new w 32
  go_enter Try.func89, Try.ntmps89
  go_wp2_with fail
  refine (next_at 8 w p A n cap k s hs (by omega) (by omega) hn (by omega) s0 s1 hc).mono ?_
  rintro e w1 ⟨c, s', d', rfl, c0, c1, s0', s1', rfl⟩
  have hs1 := get_src w d' p A n cap ((k + 1 : Nat) : Int) s' hp
  have hg1 : w.grownBy (srcW w d' p A n cap ((k + 1 : Nat) : Int) s') (some p) := grown_src (World.grownBy.refl _ _)
  have hc1 := codeIn_grown hc hg1
  generalize srcW w d' p A n cap ((k + 1 : Nat) : Int) s' = w1 at *
  have hp1 := (Array.getElem?_eq_some_iff.1 hs1).1
  by_cases e0 : c = 0
  · subst e0
    go_wp2
    go_ret
    exact ⟨_, rfl, by rw [strOfNums_size]; simp, grown_below hg1 (by go_grown)⟩
  have t0 : (c == 0) = false := by simpa using e0
  by_cases e1 : c = 1
  · subst e1
    go_wp2_with fail
    refine (next_at 40 w1 p A n cap (k + 1) s' hs1 (by omega) (by omega) hn (by omega) s0' s1' hc1).mono ?_
    rintro e w2 ⟨x, s2, d2, rfl, x0, x1, s20, s21, rfl⟩
    go_wp2_with fail
    refine (less_any (1 + x) (by omega) (by omega) _).mono ?_
    rintro e w3 ⟨t, rfl, ht, hb⟩
    go_wp2
    go_ret
    exact ⟨t, rfl, ht, grown_below (grown_src hg1) hb⟩
  have t1 : (c == 1) = false := by simpa using e1
  by_cases e2 : c = 2
  · subst e2
    have hne : w1.heap.size ≠ p := by omega
    have m31 := make31'
    have F0 : ∀ Y : World, (convert 22 9 (.slice (some ⟨Y.heap.size, 0, none⟩) 31 31)).run Try.prog (Y.alloc o31) = .ok (.string z31) (Y.alloc o31) := fun Y => conv_at _ _ _ _ (by rw [at_new _ _ _ rfl, o31_eq]) (by simp)
    have F1 : ∀ Y : World, (convert 22 9 (.slice (some ⟨Y.heap.size, 0, none⟩) 31 31)).run Try.prog (Y.alloc o31).drew = .ok (.string z31) (Y.alloc o31).drew := fun Y => conv_at _ _ _ _ (show (Y.alloc o31).heap[Y.heap.size]? = _ by rw [at_new _ _ _ rfl, o31_eq]) (by simp)
    have F2 : ∀ d a s, (convert 22 9 (.slice (some ⟨w1.heap.size, 0, none⟩) 31 31)).run Try.prog (srcW (w1.alloc o31) d p A n cap a s) = .ok (.string z31) (srcW (w1.alloc o31) d p A n cap a s) := fun d a s => conv_at _ _ _ _ (by rw [get_src_other _ _ _ _ _ _ _ _ _ hne, at_new _ _ _ rfl, o31_eq]) (by simp)
    have F3 : ∀ d a s X, (convert 22 9 (.slice (some ⟨w1.heap.size, 0, none⟩) 31 31)).run Try.prog ((srcW (w1.alloc o31) d p A n cap a s).alloc X) = .ok (.string z31) ((srcW (w1.alloc o31) d p A n cap a s).alloc X) := fun d a s X => conv_at _ _ _ _ (by rw [at_old _ _ _ (by rw [size_src]; simp), get_src_other _ _ _ _ _ _ _ _ _ hne, at_new _ _ _ rfl, o31_eq]) (by simp)
    have F4 : ∀ d a s, (convert 22 9 (.slice (some ⟨w1.heap.size, 0, none⟩) 31 31)).run Try.prog ((srcW w1 d p A n cap a s).alloc o31) = .ok (.string z31) ((srcW w1 d p A n cap a s).alloc o31) := fun d a s => conv_at _ _ _ _ (by rw [at_new _ _ _ (by rw [size_src]), o31_eq]) (by simp)
    have F5 : ∀ d a s X, (convert 22 9 (.slice (some ⟨w1.heap.size + 1, 0, none⟩) 31 31)).run Try.prog (((srcW w1 d p A n cap a s).alloc X).alloc o31) = .ok (.string z31) (((srcW w1 d p A n cap a s).alloc X).alloc o31) := fun d a s X => conv_at _ _ _ _ (by rw [at_new _ _ _ (by simp [size_src]), o31_eq]) (by simp)
    have F6 : ∀ d a s X, (convert 22 9 (.slice (some ⟨w1.heap.size, 0, none⟩) 31 31)).run Try.prog (((srcW w1 d p A n cap a s).alloc o31).alloc X) = .ok (.string z31) (((srcW w1 d p A n cap a s).alloc o31).alloc X) := fun d a s X => conv_at _ _ _ _ (by rw [at_old _ _ _ (by simp [size_src]), at_new _ _ _ (by rw [size_src]), o31_eq]) (by simp)
    have G1 : ∀ d a s x, (convert 22 9 (.slice (some ⟨w1.heap.size, 0, none⟩) 1 1)).run Try.prog ((srcW w1 d p A n cap a s).alloc (.cells #[.int .u8 x] 5)) = .ok (.string (oneS x)) ((srcW w1 d p A n cap a s).alloc (.cells #[.int .u8 x] 5)) := fun d a s x => conv_at _ _ _ _ (by rw [at_new _ _ _ (by rw [size_src])]; rfl) rfl
    have G2 : ∀ d a s x O, (convert 22 9 (.slice (some ⟨w1.heap.size, 0, none⟩) 1 1)).run Try.prog (((srcW w1 d p A n cap a s).alloc (.cells #[.int .u8 x] 5)).alloc O) = .ok (.string (oneS x)) (((srcW w1 d p A n cap a s).alloc (.cells #[.int .u8 x] 5)).alloc O) := fun d a s x O => conv_at _ _ _ _ (by rw [at_old _ _ _ (by simp [size_src]), at_new _ _ _ (by rw [size_src])]; rfl) rfl
    have G3 : ∀ d a s x O, (convert 22 9 (.slice (some ⟨w1.heap.size + 1, 0, none⟩) 1 1)).run Try.prog (((srcW w1 d p A n cap a s).alloc O).alloc (.cells #[.int .u8 x] 5)) = .ok (.string (oneS x)) (((srcW w1 d p A n cap a s).alloc O).alloc (.cells #[.int .u8 x] 5)) := fun d a s x O => conv_at _ _ _ _ (by rw [at_new _ _ _ (by simp [size_src])]; rfl) rfl
    have G4 : ∀ d a s x O, (convert 22 9 (.slice (some ⟨w1.heap.size + 1, 0, none⟩) 1 1)).run Try.prog ((srcW (w1.alloc O) d p A n cap a s).alloc (.cells #[.int .u8 x] 5)) = .ok (.string (oneS x)) ((srcW (w1.alloc O) d p A n cap a s).alloc (.cells #[.int .u8 x] 5)) := fun d a s x O => conv_at _ _ _ _ (by rw [at_new _ _ _ (by simp [size_src])]; rfl) rfl
    have N1 : Calls Try.prog 93 #[.pointer (some ⟨p, 0, none⟩), .int .i64 40] w1.drew fun e w' => ∃ (c s2 : Int) (d' : Nat), e = .returned (.int .i64 c) ∧ 0 ≤ c ∧ c < 40 ∧ w' = srcW w1 d' p A n cap ((k + 1 + 1 : Nat) : Int) s2 := by
      refine (next_at 40 w1.drew p A n cap (k + 1) s' hs1 (by omega) (by omega) hn (by omega) s0' s1' hc1).mono ?_
      rintro e w2 ⟨x, s2, d2, rfl, x0, x1, _, _, rfl⟩
      exact ⟨x, s2, d2, rfl, x0, x1, rfl⟩
    have N2 : Calls Try.prog 93 #[.pointer (some ⟨p, 0, none⟩), .int .i64 40] (w1.alloc o31).drew fun e w' => ∃ (c s2 : Int) (d' : Nat), e = .returned (.int .i64 c) ∧ 0 ≤ c ∧ c < 40 ∧ w' = srcW (w1.alloc o31) d' p A n cap ((k + 1 + 1 : Nat) : Int) s2 := by
      refine (next_at 40 (w1.alloc o31).drew p A n cap (k + 1) s' (show (w1.alloc o31).heap[p]? = _ by rw [at_old _ _ _ hp1]; exact hs1) (by omega) (by omega) hn (by omega) s0' s1' (codeIn_grown hc1 ⟨rfl, rfl, rfl, by show w1.heap.size ≤ (w1.alloc o31).heap.size; simp, fun j hj _ => at_old w1 o31 j hj⟩)).mono ?_
      rintro e w2 ⟨x, s2, d2, rfl, x0, x1, _, _, rfl⟩
      exact ⟨x, s2, d2, rfl, x0, x1, rfl⟩
    have l1 := one_size
    have l2 := z31_size
    have K1 := hide N1
    have K2 := hide N2
    have gA : ∀ d a s, w.grownBy (srcW w1 d p A n cap a s) (some p) := fun d a s => grown_src hg1
    have gB : ∀ d a s, w.grownBy (srcW (w1.alloc o31) d p A n cap a s) (some p) := fun d a s => grown_src (grown_below hg1 ((Below.refl _ _).alloc (Nat.le_refl _) _))
    have HA := hide gA
    have HB := hide gB
    clear m32 c32 N1 N2 gA gB hc1 hs1 hg1 hc hs hn hk s0 s1 s0' s1' t0 t1
    go_wp2_with fail
    go_region_with (first
        | (go_at_call 93; refine (unhide K1).mono ?_; rintro e w2 ⟨x, s2, d2, rfl, x0, x1, rfl⟩)
        | (go_at_call 93; refine (unhide K2).mono ?_; rintro e w2 ⟨x, s2, d2, rfl, x0, x1, rfl⟩))
    all_goals (go_wp2; go_ret)
    all_goals refine ⟨_, rfl, ?_, ?_⟩
    all_goals first | rw [ByteArray.size_append, one_size, z31_size] | exact grown_below (unhide HA _ _ _) (by go_grown) | exact grown_below (unhide HB _ _ _) (by go_grown)
  have t2 : (c == 2) = false := by simpa using e2
  by_cases e3 : c = 3
  · subst e3
    go_wp2_with fail
    refine (next_at 40 w1 p A n cap (k + 1) s' hs1 (by omega) (by omega) hn (by omega) s0' s1' hc1).mono ?_
    rintro e w2 ⟨x, s2, d2, rfl, x0, x1, s20, s21, rfl⟩
    go_wp2_with fail
    refine (less_any (1 + x) (by omega) (by omega) _).mono ?_
    rintro e w3 ⟨t, rfl, ht, hb⟩
    obtain ⟨cp, rest, hcap, hcv⟩ := str_bytes t w3
    have hl := byteI_len t
    rw [ht] at hcap hcv hl
    generalize byteI t = xs at *
    have hgr := grown_below (grown_src (d := d2) (A := A) (n := n) (cap := cap) (a := ((k + 1 + 1 : Nat) : Int)) (s := s2) hg1) hb
    clear hb
    go_wp2
    go_ret
    refine ⟨_, rfl, by rw [strOfNums_size]; simpa using hl, grown_below hgr (below_rowM _ _ _ _ _ _ (by go_grown) (Nat.le_refl _))⟩
  have t3 : (c == 3) = false := by simpa using e3
  go_wp2_with fail
  refine (blob_any 32 w1 p A n cap (k + 1) s' hs1 (by omega) hn (by omega) s0' s1' hc1).mono ?_
  rintro e w2 ⟨t, s2, rfl, ht, _, _, _, hg⟩
  go_wp2
  go_ret
  exact ⟨t, rfl, ht, ⟨hg.os.trans hg1.os, hg.tape.trans hg1.tape, hg.output.trans hg1.output, Nat.le_trans hg1.size hg.size, fun j hj hne => (hg.block j (Nat.lt_of_lt_of_le hj hg1.size) hne).trans (hg1.block j hj hne)⟩⟩
/-- what is drawn is a number of the field, in its one form -/
theorem fieldOf2_any (w : World) (A : Option Addr) (n cap : Nat) (hn : n ≤ maxLen) (hc : codeAt w A n) :
    Calls Try.prog 22 #[.slice A n cap] w fun e w' => ∃ v : Int, e = .returned (.string (enc (v % pInt))) ∧ Below w.heap.size w w' := by
  go_enter Try.func22, Try.ntmps22
  go_wp2_with fail
  refine (source_any A n cap hn w).mono ?_
  rintro e w1 ⟨rfl, rfl⟩
  go_wp2_with fail
  have key : Calls Try.prog 56 #[.pointer (some ⟨w.heap.size, 0, none⟩)] (w.alloc (srcO A n cap 0 ((n % 1000 : Nat) : Int))) fun e w' => ∃ v : Int, e = .returned (.string (enc (v % pInt))) ∧ Below w.heap.size w w' := by
    go_enter Try.func56, Try.ntmps56
    go_wp2_with fail
    refine (raw_any _ w.heap.size A n cap 0 _ (heap_alloc_new w _) hn (by omega) (by omega) (by omega) (codeIn_alloc hc _)).mono ?_
    rintro e w2 ⟨t, rfl, ht, hg⟩
    have hb : Below w.heap.size w w2 := Below.grown ((Below.refl _ w).alloc (Nat.le_refl _) _) hg (by simp) (by simp)
    clear hg
    go_wp2_with fail
    refine (load_any t ht w2).mono ?_
    rintro e w3 ⟨rfl, rfl⟩
    have hr := load_row t w2
    generalize hO : w2.alloc (rowObj 3 .i64 (digI 26 10 (numN t) 255) []) = w3 at *
    have hb3 : Below w.heap.size w w3 := by rw [← hO]; exact hb.alloc hb.size _
    go_wp2_with fail
    refine (store_row w3 _ _ _ hr).mono ?_
    rintro e w4 ⟨rfl, hb4⟩
    go_wp2
    go_ret
    exact ⟨_, rfl, hb3.trans (hb4.mono hb3.size)⟩
  refine key.mono ?_
  rintro e w2 ⟨v, rfl, hb⟩
  go_wp2
  go_ret
  exact ⟨v, rfl, hb⟩
end Go.Proofs.Ytecphhfdleaklaa
