/- errors.As of a reader's fault, wrapped once, at a target of the fault's own type. -/
import Derived.Test.YtgdohkemamlnhaaDoorAsF
namespace Go.Proofs.YtgdohkemamlnhaaDoor
open Go.RowKit Go.Extern.Stop Go.Stop Go.Extern
set_option maxHeartbeats 4000000
set_option maxRecDepth 20000
theorem set87 (ta b : Addr) (c : Int) (old : Value) (W : World) (hb : W.cell? b = some (.int .i64 c)) (ht : W.cell? ta = some old) (hf : W.frozen? ta = false) :
    (ReflectliteValue.set #[.agg #[.pointer (some ⟨1, 87, none⟩), .pointer (some ta), .int .u64 409], .agg #[.pointer (some ⟨1, 87, none⟩), .pointer (some b), .int .u64 153]]).run Tryd.prog W
      = .ok (.tuple #[]) (W.setCell ta (.int .i64 c)) := by
  delta ReflectliteValue.set
  rw [ms2]
  simp only [Sem.run_bind, parts87a, parts87, Result.andThen]
  have hl : (loadCellsFrom b 0 1 #[]).run Tryd.prog W = .ok #[.int .i64 c] W := by
    have := run_loadCells_list (P := Tryd.prog) W b [.int .i64 c] (fun j v hj => by
      cases j with
      | zero => simp at hj; subst hj; simpa [Addr.add] using hb
      | succ j => simp at hj)
    simpa [loadCells] using this
  simp [ReflectliteValue.flagAddr, loadVar, isAgg, underlying, Tryd.underlying87, loadCells, hl, Result.andThen, direct87, storeVar, Value.cells, storeCells, Addr.add]
  rw [run_store Tryd.prog W ta _ _ (by rfl)]
  simp [ht, hf]
theorem noAs89 (v : Value) (w : World) : (Instr.typeAssert (.iface 89 v) 72 113 true).run Tryd.prog w = .ok (.tuple #[.nilIface, .bool false]) w := run_typeAssert_lacksB Tryd.underlying113 (by kernel_rfl) (by kernel_rfl) v 72 w
theorem hasUnwrap89 (v : Value) (w : World) : (Instr.typeAssert (.iface 89 v) 72 116 true).run Tryd.prog w = .ok (.tuple #[.iface 89 v, .bool true]) w := run_typeAssert_hasB Tryd.underlying116 (by kernel_rfl) v 72 w
theorem unwrap93 (p : ByteArray) (x : Value) (hx : ∃ c : Int, x = .iface 87 (.agg #[.int .i64 c])) (w : World) : Calls Tryd.prog 93 #[.agg #[.string p, x]] w fun e w' => e = .returned x ∧ w' = w.alloc (.cells #[.string p, x] 89) := by
  obtain ⟨c, rfl⟩ := hx
  go_enter Tryd.func93, Tryd.ntmps93
  go_wp2
  go_ret
  exact ⟨rfl, rfl⟩
theorem as69 (c : Int) (p : ByteArray) (T : Value) (ta a : Addr) (old : Value) (w : World) (ha : w.cell? a = some (.pointer (some ta))) (ht : w.cell? ta = some old) (hf : w.frozen? ta = false) :
    Calls Tryd.prog 69 #[.iface 89 (.agg #[.string p, .iface 87 (.agg #[.int .i64 c])]), T, .agg #[.pointer (some ⟨1, 91, none⟩), .pointer (some a), .int .u64 150], .iface 108 (.agg #[.pointer (some ⟨1, 87, none⟩)])] w fun e w' => e = .returned (.bool true) ∧
      w' = (((w.alloc (.cells #[.pointer (some ⟨1, 91, none⟩), .pointer (some a), .int .u64 150] 97)).alloc (.cells #[.string p, .iface 87 (.agg #[.int .i64 c])] 89)).alloc (.cells #[.int .i64 c] 87)).setCell ta (.int .i64 c) := by
  have h66 := @run_callFunc_extern Tryd.prog 66 _ (fun args => ReflectliteValue.unpack (args.getD 0 (.tuple #[]))) Tryd.func66 (by kernel_rfl) (by kernel_rfl) (by kernel_rfl) (by kernel_rfl)
  have h70 := @run_callFunc_extern Tryd.prog 70 _ ReflectliteType.typeOf Tryd.func70 (by kernel_rfl) (by kernel_rfl) (by kernel_rfl) (by kernel_rfl)
  have h98 := @run_callFunc_extern Tryd.prog 98 _ (ReflectliteType.relation "AssignableTo" ReflectliteType.assignableTo) Tryd.func98 (by kernel_rfl) (by kernel_rfl) (by kernel_rfl) (by kernel_rfl)
  have h71 := @run_callFunc_extern Tryd.prog 71 _ (ReflectliteValue.method (ReflectliteValue.valueError "reflectlite.Value.Elem" 0) ReflectliteValue.elem) Tryd.func71 (by kernel_rfl) (by kernel_rfl) (by kernel_rfl) (by kernel_rfl)
  have h72 := @run_callFunc_extern Tryd.prog 72 _ ReflectliteValue.set Tryd.func72 (by kernel_rfl) (by kernel_rfl) (by kernel_rfl) (by kernel_rfl)
  have t87 := typeOf87
  have t89 := typeOf89
  have mA := methodAssignableTo
  have mU := methodUnwrap
  have a87 := assignable87
  have a89 := assignable89
  have v87 := valueOf87
  have nA := noAs89
  have hU := hasUnwrap89
  have hal : a.block < w.heap.size := by
    rcases Nat.lt_or_ge a.block w.heap.size with h | h
    · exact h
    · simp [World.cell?, Array.getElem?_eq_none h] at ha
  have htl : ta.block < w.heap.size := by
    rcases Nat.lt_or_ge ta.block w.heap.size with h | h
    · exact h
    · simp [World.cell?, Array.getElem?_eq_none h] at ht
  obtain ⟨W1, e1⟩ : ∃ W1, W1 = w.alloc (.cells #[.pointer (some ⟨1, 91, none⟩), .pointer (some a), .int .u64 150] 97) := ⟨_, rfl⟩
  obtain ⟨W2, e2⟩ : ∃ W2, W2 = W1.alloc (.cells #[.string p, .iface 87 (.agg #[.int .i64 c])] 89) := ⟨_, rfl⟩
  have el := elemV91 a ta W2 (by subst e1 e2; rw [World.cell?_alloc_lt _ _ a (by simp; omega), World.cell?_alloc_lt _ _ a hal]; exact ha)
  have st := set87 ta ⟨W2.heap.size, 0, none⟩ c old (W2.alloc (.cells #[.int .i64 c] 87))
    (by rw [World.cell?_alloc_at _ _ _ _ (by simp)]; rfl)
    (by subst e1 e2; rw [World.cell?_alloc_lt _ _ ta (by simp; omega), World.cell?_alloc_lt _ _ ta (by simp; omega), World.cell?_alloc_lt _ _ ta htl]; exact ht)
    (by subst e1 e2; rw [World.frozen?_alloc_old _ _ ta (by simp; omega), World.frozen?_alloc_old _ _ ta (by simp; omega), World.frozen?_alloc_old _ _ ta (Nat.ne_of_lt htl)]; exact hf)
  subst e1 e2
  simp only [World.size_alloc] at st
  have hUn := fun W => unwrap93 p (.iface 87 (.agg #[.int .i64 c])) ⟨c, rfl⟩ W
  have HUn := hide hUn
  clear hUn ha ht hf
  go_enter Tryd.func69, Tryd.ntmps69
  go_wp2
  refine wp_loop_rounds 2 ?_
  rw [rounds_succ]
  go_wp2_with (first | (go_at_call 93; refine (unhide HUn _).mono ?_; rintro e w1 ⟨rfl, rfl⟩))
  rw [rounds_succ]
  go_wp2
  go_ret
  exact ⟨rfl, rfl⟩
theorem setCell_one {X : World} {t : Nat} {old v : Value} {ty : TypeId} (h : X.heap[t]? = some (.cells #[old] ty (0, 0))) : (X.setCell ⟨t, 0, none⟩ v).heap[t]? = some (.cells #[v] ty (0, 0)) := by
  have hl := (Array.getElem?_eq_some_iff.1 h).1
  simp [World.setCell, Array.getElem?_modify, h]
theorem below_setCell {B t : Nat} {a X : World} {v : Value} {i : Nat} (h : Below B a X) (ht : B ≤ t) : Below B a (X.setCell ⟨t, i, none⟩ v) :=
  ⟨h.os, h.tape, h.output, by simpa [World.setCell] using h.size, fun k hk => by
    rw [← h.block k hk]; simp only [World.setCell]; rw [Array.getElem?_modify, if_neg (by omega)]⟩
theorem as64 (c : Int) (p : ByteArray) (t : Nat) (old : Value) (w : World) (hg : w.cell? ⟨0, 0, none⟩ = some (.iface 108 (.agg #[.pointer (some ⟨1, 72, none⟩)]))) (ht : w.heap[t]? = some (.cells #[old] 87 (0, 0))) (h1 : 0 < t) :
    Calls Tryd.prog 64 #[.iface 89 (.agg #[.string p, .iface 87 (.agg #[.int .i64 c])]), .iface 91 (.pointer (some ⟨t, 0, none⟩))] w fun e w' => e = .returned (.bool true) ∧ w'.heap[t]? = some (.cells #[.int .i64 c] 87 (0, 0)) ∧ Below t w w' := by
  have htl : t < w.heap.size := (Array.getElem?_eq_some_iff.1 ht).1
  have hct : w.cell? ⟨t, 0, none⟩ = some old := by rw [Go.cell_of_row _ _ _ _ _ _ ht]; rfl
  have hft : w.frozen? ⟨t, 0, none⟩ = false := by simp [World.frozen?, ht]
  have h66 := @run_callFunc_extern Tryd.prog 66 _ (fun args => ReflectliteValue.unpack (args.getD 0 (.tuple #[]))) Tryd.func66 (by kernel_rfl) (by kernel_rfl) (by kernel_rfl) (by kernel_rfl)
  have h67 := @run_callFunc_extern Tryd.prog 67 _ (ReflectliteValue.methodAny (ReflectliteValue.valueError "reflectlite.Value.Type" 0) (fun t _ _ _ => ReflectliteType.toType t)) Tryd.func67 (by kernel_rfl) (by kernel_rfl) (by kernel_rfl) (by kernel_rfl)
  have h68 := @run_callFunc_extern Tryd.prog 68 _ (ReflectliteValue.method (ReflectliteValue.valueError "reflectlite.Value.IsNil" 0) ReflectliteValue.isNil) Tryd.func68 (by kernel_rfl) (by kernel_rfl) (by kernel_rfl) (by kernel_rfl)
  have h87 := @run_callFunc_extern Tryd.prog 87 _ (ReflectliteType.abiMethod fun t => do pure (.int .u8 (← Rtype.kind t))) Tryd.func87 (by kernel_rfl) (by kernel_rfl) (by kernel_rfl) (by kernel_rfl)
  have h100 := @run_callFunc_extern Tryd.prog 100 _ (ReflectliteType.method ReflectliteType.elem) Tryd.func100 (by kernel_rfl) (by kernel_rfl) (by kernel_rfl) (by kernel_rfl)
  have h101 := @run_callFunc_extern Tryd.prog 101 _ (ReflectliteType.relation "Implements" ReflectliteType.implements_) Tryd.func101 (by kernel_rfl) (by kernel_rfl) (by kernel_rfl) (by kernel_rfl)
  have f66 := valueOf91
  have f67 := type91
  have mK := methodKind
  have mE := methodElem
  have mI := methodImplements
  have k91 := kind91
  have k87 := kind87
  have e91 := elem91
  have i87 := implements87
  have hlt : 0 < w.heap.size := by omega
  have n8 := isNil91 ⟨w.heap.size, 0, none⟩ ⟨t, 0, none⟩ ((w.alloc (.cells #[.pointer (some ⟨t, 0, none⟩)] 91)).alloc (.cells #[.pointer (some ⟨1, 91, none⟩), .pointer (some ⟨w.heap.size, 0, none⟩), .int .u64 150] 97)) (by simp)
  have hg2 : ((w.alloc (.cells #[.pointer (some ⟨t, 0, none⟩)] 91)).alloc (.cells #[.pointer (some ⟨1, 91, none⟩), .pointer (some ⟨w.heap.size, 0, none⟩), .int .u64 150] 97)).cell? ⟨0, 0, none⟩ = some (.iface 108 (.agg #[.pointer (some ⟨1, 72, none⟩)])) := by
    rw [World.cell?_alloc_lt _ _ ⟨0, 0, none⟩ (by simp), World.cell?_alloc_lt _ _ ⟨0, 0, none⟩ hlt]; exact hg
  have hc69 := hide (as69 c p (.iface 91 (.pointer (some ⟨t, 0, none⟩))) ⟨t, 0, none⟩ ⟨w.heap.size, 0, none⟩ old ((w.alloc (.cells #[.pointer (some ⟨t, 0, none⟩)] 91)).alloc (.cells #[.pointer (some ⟨1, 91, none⟩), .pointer (some ⟨w.heap.size, 0, none⟩), .int .u64 150] 97)) (by simp)
    (by rw [World.cell?_alloc_lt _ _ ⟨t, 0, none⟩ (by simp; omega), World.cell?_alloc_lt _ _ ⟨t, 0, none⟩ htl]; exact hct)
    (by rw [World.frozen?_alloc_old _ _ ⟨t, 0, none⟩ (by simp; omega), World.frozen?_alloc_old _ _ ⟨t, 0, none⟩ (Nat.ne_of_lt htl)]; exact hft))
  have HT := hide ht
  clear ht hct hft hg
  go_enter Tryd.func64, Tryd.ntmps64
  go_wp2_with (first | (go_at_call 69; refine (unhide hc69).mono ?_; rintro e w1 ⟨rfl, rfl⟩))
  go_ret
  have hX := bl_al (o := .cells #[.int .i64 c] 87) (bl_al (o := .cells #[.string p, .iface 87 (.agg #[.int .i64 c])] 89) (bl_al (o := .cells #[.pointer (some ⟨1, 91, none⟩), .pointer (some ⟨w.heap.size, 0, none⟩), .int .u64 150] 97) (bl_al (o := .cells #[.pointer (some ⟨1, 91, none⟩), .pointer (some ⟨w.heap.size, 0, none⟩), .int .u64 150] 97) (bl_al (o := .cells #[.pointer (some ⟨t, 0, none⟩)] 91) (Below.refl w.heap.size w)))))
  exact ⟨rfl, setCell_one ((hX.block t htl).trans (unhide HT)), below_setCell (hX.mono (Nat.le_of_lt htl)) (Nat.le_refl _)⟩
end Go.Proofs.YtgdohkemamlnhaaDoor
