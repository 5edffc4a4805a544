/- Items that are drawn. -/
import Derived.Test.YtgdohkemamlnhaaDoorMo
import Derived.Test.YtgdohkemamlnhaaDoorSap
namespace Go.Proofs.YtgdohkemamlnhaaDoor
open Go.RowKit
set_option maxHeartbeats 4000000
set_option maxRecDepth 20000
theorem wpList_append_one (w : World) {ops : Array Oper} {rest : List Oper} {o : Oper} {a : Act} {Q : Exit → Act → World → Prop} (hgd : o.guard = none) (s x : Operand)
    (ho : o.op = .call { callee := .builtin .append, args := #[s, x], argTypes := #[31, 31] })
    (base k : Nat) (v : Value) (ts : List ByteArray) (hs : a.eval s = v) (hown : w.ownsRow base 9 1 v k (ts.map Value.string)) (b : Nat) (t : ByteArray) (hxv : a.eval x = .slice (some ⟨b, 0, none⟩) 1 1) (hc : w.cell? ⟨b, 0, none⟩ = some (.string t)) (hm : k + 1 ≤ 65536) (hbase : base ≤ w.heap.size)
    (h : ∀ (g c : Nat) (w' : World), w'.ownsRow base 9 1 (.slice (some ⟨g, 0, none⟩) (k + 1) c) (k + 1) ((ts ++ [t]).map Value.string) → w.grownBy w' v.ownBlock → wpList Tryd.prog ops Q rest (a.put o.dst (.slice (some ⟨g, 0, none⟩) (k + 1) c)) w') : wpList Tryd.prog ops Q (o :: rest) a w :=
  wpList_plain hgd fun K hK => by
    obtain ⟨g, c, w', hr, h2, h4⟩ := run_append_one w o.type base k v ts hown b t hc hm hbase
    unfold Oper.wp execOp
    simp only [ho, resolve, invoke, builtin, Sem.run_bind, Sem.run_pure, Result.andThen_ok, List.map_toArray, List.map_cons, List.map_nil, hs, hxv, hr]
    exact hK _ _ (h g c w' h2 h4)
/-- items of one length -/
def allZ (z : Nat) (ts : List ByteArray) : Prop := ∀ t ∈ ts, t.size = z
theorem items45 (p : Nat) (A : Option Addr) (n cap : Nat) (W : World) (h : Sr p A n cap 0 W) (hn : n ≤ maxLen) :
    Calls Tryd.prog 45 #[.pointer (some ⟨p, 0, none⟩)] W fun e w' => ∃ (u : Value) (ts : List ByteArray) (z : Nat), e = .returned u ∧ ownS W.heap.size w'.heap.size w' u ts ∧ ts.length ≤ 7 ∧ z ≤ 19 ∧ allZ z ts ∧ Only p W w' := by
  have HN := hide hn
  have LT := hide h.lt
  have HC := hide h.code
  have B1 := hide (show Below W.heap.size W (W.alloc (.cells #[] 9)) from bl_al (Below.refl _ _))
  have S1 := hide (h.only (unhide B1))
  have O1 := hide (World.ownsRow_made W (e := 9) (size := 1) #[] 0 (Nat.le_refl _) (Nat.zero_le _) rfl)
  clear h hn
  go_enter Tryd.func45, Tryd.ntmps45
  go_wp2_with fail
  generalize W.alloc (.cells #[] 9) = w1 at *
  refine (next_o 20 p A n cap 0 w1 (unhide S1) (by omega) (by omega) (unhide HN) (by omega)).mono ?_
  rintro e w2 ⟨zi, rfl, z0, z1, s2, o2⟩
  obtain ⟨z, rfl⟩ := Int.eq_ofNat_of_zero_le z0
  have S2 := hide s2
  have OW2 := hide (own_only (unhide O1) o2 (unhide LT))
  have N2 := hide ((Only.of_below (q := p) (unhide B1)).trans o2)
  have Z19 := hide (show z ≤ 19 by omega)
  clear s2 o2 S1 O1
  go_wp2_with fail
  refine (next_o 8 p A n cap _ w2 (unhide S2) (by omega) (by omega) (unhide HN) (by omega)).mono ?_
  rintro e w3 ⟨ci, rfl, c0, c1, s3, o3⟩
  obtain ⟨c, rfl⟩ := Int.eq_ofNat_of_zero_le c0
  have S3 := hide s3
  have OW3 := hide (own_only (unhide OW2) o3 (unhide LT))
  have N3 := hide ((unhide N2).trans o3)
  have C7 := hide (show c ≤ 7 by omega)
  clear s3 o3 S2 OW2 N2 B1 c0 c1 z0 z1
  go_wp2
  go_loopw [3, 5] (fun ov iv wr => ∃ (i j k : Nat) (ts : List ByteArray), iv = .int .i64 (i : Int) ∧ i + j ≤ 7 ∧ wr.ownsRow W.heap.size 9 1 ov j (ts.map Value.string) ∧ ts.length = j ∧ allZ z ts ∧ k ≤ 2 + j * 19 ∧ (∃ s : Int, wr.heap[p]? = some (srcO A n cap (k : Int) s) ∧ 0 ≤ s ∧ s < 2147483648) ∧ Only p W wr) (fun _ iv _ => (intOf iv).toNat)
  case atStart =>
    exact ⟨c, 0, 2, [], rfl, by have := unhide C7; omega, unhide OW3, rfl, (fun t ht => nomatch ht), by omega, (unhide S3).row, unhide N3⟩
  case round =>
    obtain ⟨i, j, k, ts, rfl, hij, own, hl, hz, hk, hrow, hon⟩ := hrel
    obtain ⟨Av, nv, cv, rfl⟩ : ∃ A n c, u3 = .slice A n c := by
      rcases own.2 with ⟨rfl, _⟩ | ⟨g, c, _, rfl, _⟩
      · exact ⟨_, _, _, rfl⟩
      · exact ⟨_, _, _, rfl⟩
    by_cases hi : i = 0
    · have e : (i : Int) = 0 := by omega
      rw [e]
      have OW := hide own
      have HO := hide hon
      have HZ := hide hz
      have HL := hide (show ts.length ≤ 7 by omega)
      clear own hon hz hl hij hk hrow hi e
      go_wp2
      go_ret
      exact ⟨_, ts, z, rfl, own_strs (unhide OW), unhide HL, unhide Z19, unhide HZ, unhide HO⟩
    · have q1 : (0 : Int) < (i : Int) := by omega
      have q2 : (i : Int) ≤ 7 := by omega
      have hz19 := unhide Z19
      have sr : Sr p A n cap k wr := ⟨hrow, codeIn_only (unhide HC) hon⟩
      have hb := hide (blob_o z p A n cap k wr sr (by omega) (unhide HN) (by omega))
      have OW := hide own
      have HO := hide hon
      have HZ := hide hz
      have HL := hide hl
      have HIJ := hide hij
      have HK := hide hk
      have HI := hide hi
      have HW := hide hon.size
      clear own hon hz hl hij hk hrow hi sr hz19
      go_wp2_with fail
      refine (unhide hb).mono ?_
      rintro e w5 ⟨t, rfl, ht, s5, o5⟩
      have OW5 := hide ((own_only (unhide OW) o5 (unhide LT)).alloc (.cells #[.string t] 9))
      have ct : (w5.alloc (.cells #[.string t] 9)).cell? ⟨w5.heap.size, 0, none⟩ = some (.string t) := row_cell (heap_at w5 _ _ rfl)
      have bA : Below w5.heap.size w5 (w5.alloc (.cells #[.string t] 9)) := bl_al (Below.refl _ _)
      have HO5 := hide (((unhide HO).trans o5).trans (Only.of_below bA))
      have SR5 := hide (s5.only bA)
      have HT := hide ht
      have HB5 := hide (Nat.le_trans (unhide HW) (Nat.le_trans o5.size bA.size))
      have CT := hide ct
      clear hb s5 o5 bA ht ct
      go_wp2_with (at_builtin; refine wpList_append_one _ rfl _ _ rfl W.heap.size j _ ts rfl (unhide OW5) w5.heap.size t rfl (unhide CT) (by have := unhide HIJ; omega) (unhide HB5) ?_; intro g6 c6 w6 o6 gr6)
      have b6 := grown_below gr6 (fun k hk => ((unhide OW5).lt k hk).1) (unhide HB5)
      have HO6 := hide ((unhide HO5).belowB b6 (Nat.le_refl _))
      obtain ⟨s, hr5, t0, t1⟩ := (unhide SR5).row
      have R6 := hide (show ∃ s : Int, w6.heap[p]? = some (srcO A n cap ((k + z : Nat) : Int) s) ∧ 0 ≤ s ∧ s < 2147483648 from ⟨s, (b6.block p (unhide LT)).trans hr5, t0, t1⟩)
      have O6 := hide o6
      clear gr6 b6 o6 hr5 HO5 SR5 OW5
      go_wp2
      go_roundw
      case rel =>
        refine ⟨i - 1, j + 1, k + z, ts ++ [t], ?_, ?_, unhide O6, ?_, ?_, ?_, unhide R6, unhide HO6⟩
        · have := unhide HI
          congr 1
          omega
        · have := unhide HIJ
          have := unhide HI
          omega
        · rw [List.length_append, unhide HL]; rfl
        · intro x hx
          rcases List.mem_append.1 hx with hx | hx
          · exact unhide HZ x hx
          · rw [List.mem_singleton.1 hx]; exact unhide HT
        · have := unhide HK
          have := unhide Z19
          omega
      case measure => have := unhide HI; simp [intOf]; omega
theorem itemsOf23 (A : Option Addr) (n cap : Nat) (W : World) (hn : n ≤ maxLen) (hc : codeAt W A n) :
    Calls Tryd.prog 23 #[.slice A n cap] W fun e w' => ∃ (u : Value) (ts : List ByteArray) (z : Nat), e = .returned u ∧ ownS W.heap.size w'.heap.size w' u ts ∧ ts.length ≤ 7 ∧ z ≤ 19 ∧ allZ z ts ∧ Below W.heap.size W w' := by
  have HN := hide hn
  have HC := hide hc
  clear hn hc
  go_enter Tryd.func23, Tryd.ntmps23
  go_wp2_with fail
  refine (source_any A n cap (unhide HN) W).mono ?_
  rintro e w2 ⟨rfl, rfl⟩
  have S2 := hide (show Sr W.heap.size A n cap 0 (W.alloc (srcO A n cap 0 ((n % 1000 : Nat) : Int))) from ⟨⟨_, heap_alloc_new W _, by omega, by omega⟩, codeIn_alloc (unhide HC) _⟩)
  have B2 := hide (show Below W.heap.size W (W.alloc (srcO A n cap 0 ((n % 1000 : Nat) : Int))) from bl_al (Below.refl _ _))
  generalize W.alloc (srcO A n cap 0 ((n % 1000 : Nat) : Int)) = w2 at *
  go_wp2_with fail
  refine (items45 _ A n cap w2 (unhide S2) (unhide HN)).mono ?_
  rintro e w3 ⟨u, ts, z, rfl, ou, hl, hz, haz, o3⟩
  have OU := hide (ou.wide (unhide B2).size (Nat.le_refl _))
  have HL := hide hl
  have HZ := hide hz
  have HA := hide haz
  have B3 := hide (Only.below o3 (unhide B2) (Nat.le_refl _) (unhide B2).size)
  clear ou hl hz haz o3
  go_wp2
  go_ret
  exact ⟨_, ts, z, rfl, unhide OU, unhide HL, unhide HZ, unhide HA, unhide B3⟩
end Go.Proofs.YtgdohkemamlnhaaDoor
