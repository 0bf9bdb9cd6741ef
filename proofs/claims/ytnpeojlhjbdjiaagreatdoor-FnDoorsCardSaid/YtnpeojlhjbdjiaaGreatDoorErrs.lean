/-
  Texts put together: Errs, Granted. What each proves stands ahead of it.
-/
import Derived.Test.YtnpeojlhjbdjiaaGreatDoorBase
import Derived.Test.YtnpeojlhjbdjiaaGreatDoorMem
import Derived.LaidEql
import Derived.Stop.Asserts
import Derived.RowKitTokens
import Derived.Test.YtnpeojlhjbdjiaaGreatDoorHas
/-
  errors.Is and errors.As at what the program hands them: nil, a sentinel, a refusal that wraps a sentinel.
-/
namespace Go.Proofs.YtnpeojlhjbdjiaaGreatDoor
set_option maxRecDepth 100000
open Go.RowKit Go.Extern.Stop Go.Stop Go.Extern

/-! Closed facts at this program's numbers. -/
theorem er_typeOfE (v : Value) (w : World) : (Extern.ReflectliteType.typeOf #[.iface 149 v]).run Tryz.prog w = .ok (.iface 128 (.agg #[.pointer (some ⟨3, 149, none⟩)])) w := by kernel_rfl
def erComp : TypeId → Sem Value := fun t => do Rtype.noPackHeld "Comparable" t; pure (.bool (← typeInfo t).comparable)
theorem er_comparable (w : World) : ((Extern.ReflectliteType.method erComp) #[.agg #[.pointer (some ⟨3, 149, none⟩)]]).run Tryz.prog w = .ok (.bool true) w := by kernel_rfl
theorem er_mComparable (v : Value) (w : World) : (Go.method 283 128 v "Comparable").run Tryz.prog w = .ok (135, v) w := by kernel_rfl
theorem er_comp : (Tryz.prog.info? 149).map (·.comparable) = some true := by kernel_rfl
theorem er_size : (Tryz.prog.info? 171).map (·.size) = some 1 := by kernel_rfl
theorem er_noIsE (v : Value) (xT : TypeId) (w : World) : (Instr.typeAssert (.iface 149 v) xT 130 true).run Tryz.prog w = .ok (.tuple #[.nilIface, .bool false]) w := run_typeAssert_lacksB Tryz.underlying130 (by kernel_rfl) (by kernel_rfl) v xT w
theorem er_noUnwrapE (v : Value) (xT : TypeId) (w : World) : (Instr.typeAssert (.iface 149 v) xT 132 true).run Tryz.prog w = .ok (.tuple #[.nilIface, .bool false]) w := run_typeAssert_lacksB Tryz.underlying132 (by kernel_rfl) (by kernel_rfl) v xT w
theorem er_noUnwrapsE (v : Value) (xT : TypeId) (w : World) : (Instr.typeAssert (.iface 149 v) xT 134 true).run Tryz.prog w = .ok (.tuple #[.nilIface, .bool false]) w := run_typeAssert_lacksB Tryz.underlying134 (by kernel_rfl) (by kernel_rfl) v xT w
theorem er_noIsR (v : Value) (xT : TypeId) (w : World) : (Instr.typeAssert (.iface 84 v) xT 130 true).run Tryz.prog w = .ok (.tuple #[.nilIface, .bool false]) w := run_typeAssert_lacksB Tryz.underlying130 (by kernel_rfl) (by kernel_rfl) v xT w
theorem er_hasUnwrapR (v : Value) (xT : TypeId) (w : World) : (Instr.typeAssert (.iface 84 v) xT 132 true).run Tryz.prog w = .ok (.tuple #[.iface 84 v, .bool true]) w := run_typeAssert_hasB Tryz.underlying132 (by kernel_rfl) v xT w
theorem er_mUnwrap (v : Value) (w : World) : (Go.method 283 84 v "Unwrap").run Tryz.prog w = .ok (129, v) w := by kernel_rfl

theorem er_unwrap (h : Int) (a : Addr) (w : World) : Calls Tryz.prog 129 #[.agg #[.int .i64 h, .iface 149 (.pointer (some a))]] w (RetV (.iface 149 (.pointer (some a))) w) := by
  go_enter Tryz.func129, Tryz.ntmps129
  go_wp2
  go_ret
  exact .mk rfl (by go_grown)

/-- errors.Is(x, x), x a sentinel. -/
theorem is_same (a : Addr) (w : World) : Calls Tryz.prog 65 #[.iface 149 (.pointer (some a)), .iface 149 (.pointer (some a))] w (RetV (.bool true) w) := by
  obtain ⟨i, hi, hcmp⟩ := Option.map_eq_some_iff.1 er_comp
  obtain ⟨j, hj, hjs⟩ := Option.map_eq_some_iff.1 er_size
  have h8 := @run_callFunc_extern Tryz.prog 86 _ (Extern.ReflectliteType.typeOf) Tryz.func86 (by kernel_rfl) (by kernel_rfl) (by kernel_rfl) (by kernel_rfl)
  have h32 := @run_callFunc_extern Tryz.prog 135 _ (Extern.ReflectliteType.method erComp) Tryz.func135 (by kernel_rfl) (by kernel_rfl) (by kernel_rfl) (by kernel_rfl)
  have tT := er_typeOfE
  have cT := er_comparable
  have mR := er_mComparable
  have heq := run_eql_iface_ptr_same (P := Tryz.prog) w a Tryz.underlying65 Tryz.underlying149 hi hcmp hj
  go_enter Tryz.func65, Tryz.ntmps65
  go_wp2
  refine wp_loop_rounds 1 ?_
  rw [rounds_succ]
  go_wp2
  go_ret
  exact .mk rfl (.refl _ _)

/-- errors.Is(nil, x). -/
theorem is_nil (b : Addr) (w : World) : Calls Tryz.prog 65 #[.nilIface, .iface 149 (.pointer (some b))] w (RetV (.bool false) w) := by
  have hn := run_eql_iface_nil_left (P := Tryz.prog) w 149 (.pointer (some b)) Tryz.underlying65
  go_enter Tryz.func65, Tryz.ntmps65
  go_wp2
  go_ret
  exact .mk rfl (.refl _ _)

/-- errors.Is(r, y), r a refusal that wraps another sentinel than y: one Unwrap, then not equal, and no more to unwrap. -/
theorem is_refusal (h : Int) (a b : Addr) (ca cb : Array Value) (ta tb : TypeId) (w : World) (hne : a ≠ b) (ha : w.heap[a.block]? = some (.cells ca ta (0, 0))) (hb : w.heap[b.block]? = some (.cells cb tb (0, 0))) :
    Calls Tryz.prog 65 #[.iface 84 (.agg #[.int .i64 h, .iface 149 (.pointer (some a))]), .iface 149 (.pointer (some b))] w (RetV (.bool false) w) := by
  obtain ⟨i, hi, hcmp⟩ := Option.map_eq_some_iff.1 er_comp
  obtain ⟨j, hj, hjs⟩ := Option.map_eq_some_iff.1 er_size
  have h8 := @run_callFunc_extern Tryz.prog 86 _ (Extern.ReflectliteType.typeOf) Tryz.func86 (by kernel_rfl) (by kernel_rfl) (by kernel_rfl) (by kernel_rfl)
  have h32 := @run_callFunc_extern Tryz.prog 135 _ (Extern.ReflectliteType.method erComp) Tryz.func135 (by kernel_rfl) (by kernel_rfl) (by kernel_rfl) (by kernel_rfl)
  have tT := er_typeOfE
  have cT := er_comparable
  have mR := er_mComparable
  have nE := er_noIsE
  have uE := er_noUnwrapE
  have vE := er_noUnwrapsE
  have nW := er_noIsR
  have uW := er_hasUnwrapR
  have mU := er_mUnwrap
  have hty := run_eql_iface_types (P := Tryz.prog) 84 149 (.agg #[.int .i64 h, .iface 149 (.pointer (some a))]) (.pointer (some b)) Tryz.underlying65 (by decide) w
  have HA := Lib.hid ha
  have HB := Lib.hid hb
  clear ha hb
  go_enter Tryz.func65, Tryz.ntmps65
  go_wp2
  refine wp_loop_rounds 2 ?_
  rw [rounds_succ]
  go_wp2_with (go_at_call 129; refine (er_unwrap h a _).mono ?_; rintro e w1 ⟨rfl, hb1⟩; have HB1 := Lib.hid hb1; have heq := run_eql_iface_ptr_other (P := Tryz.prog) w1 Tryz.underlying65 Tryz.underlying149 hi hcmp hj (by rw [hjs]; decide) hne ((hb1.block _ (Array.getElem?_eq_some_iff.1 HA.out).1).trans HA.out) ((hb1.block _ (Array.getElem?_eq_some_iff.1 HB.out).1).trans HB.out); clear hb1)
  rw [rounds_succ]
  go_wp2
  go_ret
  exact .mk rfl HB1.out

/-- errors.As(nil, target). -/
theorem as_nil (t : Value) (w : World) : Calls Tryz.prog 66 #[.nilIface, t] w (RetV (.bool false) w) := by
  go_enter Tryz.func66, Tryz.ntmps66
  go_wp2
  go_ret
  exact .mk rfl (.refl _ _)

/-! The entries of reflectlite at a refusal and at a pointer to one. -/
theorem er_valueOfP (t : Addr) (w : World) : (ReflectliteValue.unpack (.iface 87 (.pointer (some t)))).run Tryz.prog w
    = .ok (.agg #[.pointer (some ⟨3, 87, none⟩), .pointer (some ⟨w.heap.size, 0, none⟩), .int .u64 150]) (w.alloc (.cells #[.pointer (some t)] 87)) := by kernel_rfl
theorem er_typeP (a : Addr) (w : World) : (ReflectliteValue.methodAny (ReflectliteValue.valueError "reflectlite.Value.Type" 0) (fun t _ _ _ => ReflectliteType.toType t) #[.agg #[.pointer (some ⟨3, 87, none⟩), .pointer (some a), .int .u64 150]]).run Tryz.prog w
    = .ok (.iface 128 (.agg #[.pointer (some ⟨3, 87, none⟩)])) w := by kernel_rfl
theorem er_mKind (h : Value) (w : World) : (Go.method 283 128 (.agg #[h]) "Kind").run Tryz.prog w = .ok (123, h) w := by kernel_rfl
theorem er_kindP (w : World) : ((ReflectliteType.abiMethod fun t => (fun a : Nat => Value.int IntKind.u8 (a : Int)) <$> Rtype.kind t) #[.pointer (some ⟨3, 87, none⟩)]).run Tryz.prog w = .ok (.int .u8 22) w := by kernel_rfl
theorem er_kindR (w : World) : ((ReflectliteType.abiMethod fun t => (fun a : Nat => Value.int IntKind.u8 (a : Int)) <$> Rtype.kind t) #[.pointer (some ⟨3, 84, none⟩)]).run Tryz.prog w = .ok (.int .u8 25) w := by kernel_rfl
theorem rlm (z : Sem Value) (g : TypeId → Addr → Nat → Nat → Sem Value) (v : Value) :
    ReflectliteValue.method z g #[v] = (do match ← ReflectliteValue.parts v with | none => z | some (t, a, fl) => g t a fl (fl % 32)) := rfl
theorem er_partsP (a : Addr) (w : World) : (ReflectliteValue.parts (.agg #[.pointer (some ⟨3, 87, none⟩), .pointer (some a), .int .u64 150])).run Tryz.prog w = .ok (some (87, a, 150)) w := by kernel_rfl
theorem er_isNilP (a p : Addr) (W : World) (ha : W.cell? a = some (.pointer (some p))) :
    (ReflectliteValue.method (ReflectliteValue.valueError "reflectlite.Value.IsNil" 0) ReflectliteValue.isNil #[.agg #[.pointer (some ⟨3, 87, none⟩), .pointer (some a), .int .u64 150]]).run Tryz.prog W = .ok (.bool false) W := by
  rw [rlm]
  simp only [Sem.run_bind, er_partsP, Result.andThen]
  simp [ReflectliteValue.isNil, loadVar, isAgg, underlying, Tryz.underlying87, ha, Result.andThen]
theorem er_mElem (h : Value) (w : World) : (Go.method 283 128 (.agg #[h]) "Elem").run Tryz.prog w = .ok (136, .agg #[h]) w := by kernel_rfl
theorem er_mImplements (h : Value) (w : World) : (Go.method 283 128 (.agg #[h]) "Implements").run Tryz.prog w = .ok (137, .agg #[h]) w := by kernel_rfl
theorem er_mAssignableTo (h : Value) (w : World) : (Go.method 283 128 (.agg #[h]) "AssignableTo").run Tryz.prog w = .ok (134, .agg #[h]) w := by kernel_rfl
theorem er_elemP (w : World) : (ReflectliteType.method ReflectliteType.elem #[.agg #[.pointer (some ⟨3, 87, none⟩)]]).run Tryz.prog w = .ok (.iface 128 (.agg #[.pointer (some ⟨3, 84, none⟩)])) w := by kernel_rfl
theorem er_implementsR (w : World) : (ReflectliteType.relation "Implements" ReflectliteType.implements_ #[.agg #[.pointer (some ⟨3, 84, none⟩)], .iface 128 (.agg #[.pointer (some ⟨3, 65, none⟩)])]).run Tryz.prog w = .ok (.bool true) w := by kernel_rfl
theorem er_typeOfR (v : Value) (w : World) : (ReflectliteType.typeOf #[.iface 84 v]).run Tryz.prog w = .ok (.iface 128 (.agg #[.pointer (some ⟨3, 84, none⟩)])) w := by kernel_rfl
theorem er_assignableR (w : World) : (ReflectliteType.relation "AssignableTo" ReflectliteType.assignableTo #[.agg #[.pointer (some ⟨3, 84, none⟩)], .iface 128 (.agg #[.pointer (some ⟨3, 84, none⟩)])]).run Tryz.prog w = .ok (.bool true) w := by kernel_rfl
theorem er_valueOfR (h : Int) (a : Addr) (w : World) : (ReflectliteValue.unpack (.iface 84 (.agg #[.int .i64 h, .iface 149 (.pointer (some a))]))).run Tryz.prog w
    = .ok (.agg #[.pointer (some ⟨3, 84, none⟩), .pointer (some ⟨w.heap.size, 0, none⟩), .int .u64 153]) (w.alloc (.cells #[.int .i64 h, .iface 149 (.pointer (some a))] 84)) := by kernel_rfl
theorem er_elemOfP (w : World) : (Rtype.elem? 87).run Tryz.prog w = .ok (some 84) w := by kernel_rfl
theorem er_mkR (p : Addr) (w : World) : (ReflectliteValue.mk 84 p ReflectliteValue.flagAddr).run Tryz.prog w = .ok (.agg #[.pointer (some ⟨3, 84, none⟩), .pointer (some p), .int .u64 409]) w := by kernel_rfl
theorem er_elemVP (a p : Addr) (W : World) (ha : W.cell? a = some (.pointer (some p))) :
    (ReflectliteValue.method (ReflectliteValue.valueError "reflectlite.Value.Elem" 0) ReflectliteValue.elem #[.agg #[.pointer (some ⟨3, 87, none⟩), .pointer (some a), .int .u64 150]]).run Tryz.prog W
      = .ok (.agg #[.pointer (some ⟨3, 84, none⟩), .pointer (some p), .int .u64 409]) W := by
  rw [rlm]
  simp only [Sem.run_bind, er_partsP, Result.andThen]
  simp [ReflectliteValue.elem, loadVar, isAgg, underlying, Tryz.underlying87, ha, Result.andThen, er_elemOfP, er_mkR]
theorem rls (v x : Value) : ReflectliteValue.set #[v, x] = (do
    let (some (dst, a, fl), some (src, b, _)) := (← ReflectliteValue.parts v, ← ReflectliteValue.parts x)
      | unsupported (.noEntry "extern/(internal/reflectlite.Value).Set.zeroValue")
    if fl / ReflectliteValue.flagAddr % 2 == 0 then unsupported (.noEntry "extern/(internal/reflectlite.Value).Set.unaddressable")
    let val ← loadVar src b
    if ← Rtype.directlyAssignable dst src then storeVar dst a val
    else if ← Rtype.implements dst src then
      if (← Rtype.kind src) == 20 then
        match val with
        | .nilIface => unsupported (.noEntry "extern/reflectlite: a nil value of one interface type handed on as a value of another")
        | _ => storeVar dst a val
      else storeVar dst a (.iface src val)
    else panicString ("reflectlite.Set: value of type " ++ (← Rtype.spelt src) ++ " is not assignable to type " ++ (← Rtype.spelt dst))
    pure (.tuple #[])) := rfl
theorem er_partsRa (a : Addr) (w : World) : (ReflectliteValue.parts (.agg #[.pointer (some ⟨3, 84, none⟩), .pointer (some a), .int .u64 409])).run Tryz.prog w = .ok (some (84, a, 409)) w := by kernel_rfl
theorem er_partsR (a : Addr) (w : World) : (ReflectliteValue.parts (.agg #[.pointer (some ⟨3, 84, none⟩), .pointer (some a), .int .u64 153])).run Tryz.prog w = .ok (some (84, a, 153)) w := by kernel_rfl
theorem er_directR (w : World) : (Rtype.directlyAssignable 84 84).run Tryz.prog w = .ok true w := by kernel_rfl
end Go.Proofs.YtnpeojlhjbdjiaaGreatDoor

/-
  errors.As at a refusal; granted: no error is, neither a label that is not right nor a refusal.
-/
namespace Go.Proofs.YtnpeojlhjbdjiaaGreatDoor
set_option maxRecDepth 100000
open Go.RowKit Go.Extern.Stop Go.Stop Go.Extern

theorem er_setR (ta : Nat) (b : Nat) (a : Addr) (h : Int) (o0 o1 : Value) (W : World) (hb0 : W.cell? ⟨b, 0, none⟩ = some (.int .i64 h)) (hb1 : W.cell? ⟨b, 1, none⟩ = some (.iface 149 (.pointer (some a)))) (h0 : W.cell? ⟨ta, 0, none⟩ = some o0) (h1 : W.cell? ⟨ta, 1, none⟩ = some o1) (f0 : W.frozen? ⟨ta, 0, none⟩ = false) (f1 : W.frozen? ⟨ta, 1, none⟩ = false) :
    (ReflectliteValue.set #[.agg #[.pointer (some ⟨3, 84, none⟩), .pointer (some ⟨ta, 0, none⟩), .int .u64 409], .agg #[.pointer (some ⟨3, 84, none⟩), .pointer (some ⟨b, 0, none⟩), .int .u64 153]]).run Tryz.prog W
      = .ok (.tuple #[]) ((W.setCell ⟨ta, 0, none⟩ (.int .i64 h)).setCell ⟨ta, 1, none⟩ (.iface 149 (.pointer (some a)))) := by
  have h1' : (W.setCell ⟨ta, 0, none⟩ (.int .i64 h)).cell? ⟨ta, 1, none⟩ = some o1 := by rw [World.cell?_setCell_other (a := _) (b := _) (h := by simp)]; exact h1
  have f1' : (W.setCell ⟨ta, 0, none⟩ (.int .i64 h)).frozen? ⟨ta, 1, none⟩ = false := by simpa using f1
  rw [rls]
  simp only [Sem.run_bind, er_partsRa, er_partsR, Result.andThen]
  simp [ReflectliteValue.flagAddr, loadVar, isAgg, underlying, Tryz.underlying84, hb0, hb1, Result.andThen, er_directR, storeVar, Value.cells, storeCells, loadCells, loadCellsFrom, Addr.add]
  rw [run_store Tryz.prog W _ _ _ (by rfl)]
  simp [h0, f0]
  rw [run_store Tryz.prog _ _ _ _ (by rfl)]
  simp [h1', f1']

set_option maxHeartbeats 4000000 in
theorem as_hit (h : Int) (a : Addr) (t : Nat) (o0 o1 : Value) (w : World) (hg : w.cell? ⟨2, 0, none⟩ = some (.iface 128 (.agg #[.pointer (some ⟨3, 65, none⟩)]))) (h0 : w.cell? ⟨t, 0, none⟩ = some o0) (h1 : w.cell? ⟨t, 1, none⟩ = some o1) (f0 : w.frozen? ⟨t, 0, none⟩ = false) (f1 : w.frozen? ⟨t, 1, none⟩ = false) :
    Calls Tryz.prog 66 #[.iface 84 (.agg #[.int .i64 h, .iface 149 (.pointer (some a))]), .iface 87 (.pointer (some ⟨t, 0, none⟩))] w fun ev w' => ev = .returned (.bool true) ∧ w' = (((((w.alloc (.cells #[.pointer (some ⟨t, 0, none⟩)] 87)).alloc (.cells #[.pointer (some ⟨3, 87, none⟩), .pointer (some ⟨w.heap.size, 0, none⟩), .int .u64 150] 108)).alloc (.cells #[.pointer (some ⟨3, 87, none⟩), .pointer (some ⟨w.heap.size, 0, none⟩), .int .u64 150] 108)).alloc (.cells #[.int .i64 h, .iface 149 (.pointer (some a))] 84)).setCell ⟨t, 0, none⟩ (.int .i64 h)).setCell ⟨t, 1, none⟩ (.iface 149 (.pointer (some a))) := by
  have e6 := @run_callFunc_extern Tryz.prog 88 _ (fun args => ReflectliteValue.unpack (args.getD 0 (.tuple #[]))) Tryz.func88 (by kernel_rfl) (by kernel_rfl) (by kernel_rfl) (by kernel_rfl)
  have e7 := @run_callFunc_extern Tryz.prog 89 _ ((ReflectliteValue.methodAny (ReflectliteValue.valueError "reflectlite.Value.Type" 0) (fun t _ _ _ => ReflectliteType.toType t))) Tryz.func89 (by kernel_rfl) (by kernel_rfl) (by kernel_rfl) (by kernel_rfl)
  have e8 := @run_callFunc_extern Tryz.prog 90 _ ((ReflectliteValue.method (ReflectliteValue.valueError "reflectlite.Value.IsNil" 0) ReflectliteValue.isNil)) Tryz.func90 (by kernel_rfl) (by kernel_rfl) (by kernel_rfl) (by kernel_rfl)
  have e27 := @run_callFunc_extern Tryz.prog 123 _ ((ReflectliteType.abiMethod fun t => do pure (.int .u8 (← Rtype.kind t)))) Tryz.func123 (by kernel_rfl) (by kernel_rfl) (by kernel_rfl) (by kernel_rfl)
  have e37 := @run_callFunc_extern Tryz.prog 136 _ ((ReflectliteType.method ReflectliteType.elem)) Tryz.func136 (by kernel_rfl) (by kernel_rfl) (by kernel_rfl) (by kernel_rfl)
  have e38 := @run_callFunc_extern Tryz.prog 137 _ ((ReflectliteType.relation "Implements" ReflectliteType.implements_)) Tryz.func137 (by kernel_rfl) (by kernel_rfl) (by kernel_rfl) (by kernel_rfl)
  have e10 := @run_callFunc_extern Tryz.prog 86 _ (ReflectliteType.typeOf) Tryz.func86 (by kernel_rfl) (by kernel_rfl) (by kernel_rfl) (by kernel_rfl)
  have e35 := @run_callFunc_extern Tryz.prog 134 _ ((ReflectliteType.relation "AssignableTo" ReflectliteType.assignableTo)) Tryz.func134 (by kernel_rfl) (by kernel_rfl) (by kernel_rfl) (by kernel_rfl)
  have e11 := @run_callFunc_extern Tryz.prog 100 _ ((ReflectliteValue.method (ReflectliteValue.valueError "reflectlite.Value.Elem" 0) ReflectliteValue.elem)) Tryz.func100 (by kernel_rfl) (by kernel_rfl) (by kernel_rfl) (by kernel_rfl)
  have e12 := @run_callFunc_extern Tryz.prog 101 _ (ReflectliteValue.set) Tryz.func101 (by kernel_rfl) (by kernel_rfl) (by kernel_rfl) (by kernel_rfl)
  have tO := er_typeOfR
  have mA := er_mAssignableTo
  have a25 := er_assignableR
  have v25 := er_valueOfR
  have f6 := er_valueOfP
  have f7 := er_typeP
  have mK := er_mKind
  have mE := er_mElem
  have mI := er_mImplements
  have k27 := er_kindP
  have k25 := er_kindR
  have e27' := er_elemP
  have i25 := er_implementsR
  have hlt := block_lt_of_cell hg
  have htl := block_lt_of_cell h0
  simp only [] at hlt htl
  have n8 := er_isNilP ⟨w.heap.size, 0, none⟩ ⟨t, 0, none⟩ ((w.alloc (.cells #[.pointer (some ⟨t, 0, none⟩)] 87)).alloc (.cells #[.pointer (some ⟨3, 87, none⟩), .pointer (some ⟨w.heap.size, 0, none⟩), .int .u64 150] 108)) (by simp)
  have hg2 : ((w.alloc (.cells #[.pointer (some ⟨t, 0, none⟩)] 87)).alloc (.cells #[.pointer (some ⟨3, 87, none⟩), .pointer (some ⟨w.heap.size, 0, none⟩), .int .u64 150] 108)).cell? ⟨2, 0, none⟩ = some (.iface 128 (.agg #[.pointer (some ⟨3, 65, none⟩)])) := by
    rw [World.cell?_alloc_lt _ _ ⟨2, 0, none⟩ (by simp; omega), World.cell?_alloc_lt _ _ ⟨2, 0, none⟩ hlt]; exact hg
  have el := er_elemVP ⟨w.heap.size, 0, none⟩ ⟨t, 0, none⟩ (((w.alloc (.cells #[.pointer (some ⟨t, 0, none⟩)] 87)).alloc (.cells #[.pointer (some ⟨3, 87, none⟩), .pointer (some ⟨w.heap.size, 0, none⟩), .int .u64 150] 108)).alloc (.cells #[.pointer (some ⟨3, 87, none⟩), .pointer (some ⟨w.heap.size, 0, none⟩), .int .u64 150] 108)) (by rw [World.cell?_alloc_lt _ _ ⟨w.heap.size, 0, none⟩ (by simp; omega)]; simp)
  have hB : Below w.heap.size w ((((w.alloc (.cells #[.pointer (some ⟨t, 0, none⟩)] 87)).alloc (.cells #[.pointer (some ⟨3, 87, none⟩), .pointer (some ⟨w.heap.size, 0, none⟩), .int .u64 150] 108)).alloc (.cells #[.pointer (some ⟨3, 87, none⟩), .pointer (some ⟨w.heap.size, 0, none⟩), .int .u64 150] 108)).alloc (.cells #[.int .i64 h, .iface 149 (.pointer (some a))] 84)) := ((((Below.refl _ _).alloc (Nat.le_refl _) _).alloc (by simp) _).alloc (by simp; omega) _).alloc (by simp; omega) _
  have st := er_setR t (w.heap.size + 1 + 1 + 1) a h o0 o1 ((((w.alloc (.cells #[.pointer (some ⟨t, 0, none⟩)] 87)).alloc (.cells #[.pointer (some ⟨3, 87, none⟩), .pointer (some ⟨w.heap.size, 0, none⟩), .int .u64 150] 108)).alloc (.cells #[.pointer (some ⟨3, 87, none⟩), .pointer (some ⟨w.heap.size, 0, none⟩), .int .u64 150] 108)).alloc (.cells #[.int .i64 h, .iface 149 (.pointer (some a))] 84))
    (by rw [World.cell?_alloc_at _ _ _ _ (by simp)]; rfl) (by rw [World.cell?_alloc_at _ _ _ _ (by simp)]; rfl)
    ((hB.cell (p := ⟨t, 0, none⟩) htl).trans h0) ((hB.cell (p := ⟨t, 1, none⟩) htl).trans h1) ((hB.frozen (p := ⟨t, 0, none⟩) htl).trans f0) ((hB.frozen (p := ⟨t, 1, none⟩) htl).trans f1)
  clear hB
  go_enter Tryz.func66, Tryz.ntmps66
  go_wp2
  refine wp_loop_rounds 1 ?_
  rw [rounds_succ]
  go_wp2
  go_ret
  exact ⟨rfl, rfl⟩

/-- The handle that errors asks for, and a sentinel beside errNotRight. -/
structure Sent (w : World) (g : Nat) : Prop where
  et : w.cell? ⟨2, 0, none⟩ = some (.iface 128 (.agg #[.pointer (some ⟨3, 65, none⟩)]))
  s : ∃ (a b : Addr) (ca cb : Array Value) (ta tb : TypeId), w.cell? ⟨0, 0, none⟩ = some (.iface 149 (.pointer (some a))) ∧ w.cell? ⟨g, 0, none⟩ = some (.iface 149 (.pointer (some b))) ∧ a ≠ b ∧ w.heap[a.block]? = some (.cells ca ta (0, 0)) ∧ w.heap[b.block]? = some (.cells cb tb (0, 0))
theorem Sent.below {w w' : World} {g : Nat} (h : Sent w g) (hb : Below w.heap.size w w') : Sent w' g := by
  obtain ⟨a, b, ca, cb, ta, tb, h1, h2, hne, h3, h4⟩ := h.s
  exact ⟨(hb.cell (block_lt_of_cell h.et)).trans h.et, a, b, ca, cb, ta, tb, (hb.cell (block_lt_of_cell h1)).trans h1, (hb.cell (block_lt_of_cell h2)).trans h2, hne, (hb.block _ (Array.getElem?_eq_some_iff.1 h3).1).trans h3, (hb.block _ (Array.getElem?_eq_some_iff.1 h4).1).trans h4⟩
theorem Sent.drew {w : World} {g : Nat} (h : Sent w g) : Sent w.drew g := h.below (Below.refl _ _).drew

/-- What an answer of allowedTo or acceptedBy is. -/
def IsErr (w : World) (g : Nat) (ok right : Bool) (e : Value) : Prop :=
  (ok = true ∧ e = .nilIface) ∨ (ok = false ∧ right = false ∧ w.cell? ⟨0, 0, none⟩ = some e) ∨
  (ok = false ∧ right = true ∧ ∃ (h : Int) (b : Addr), w.cell? ⟨g, 0, none⟩ = some (.iface 149 (.pointer (some b))) ∧ e = .iface 84 (.agg #[.int .i64 h, .iface 149 (.pointer (some b))]))
set_option maxHeartbeats 2000000 in
theorem impl_granted (g : Nat) (ok right : Bool) (e : Value) (w : World) (hs : Sent w g) (he : IsErr w g ok right e) : Calls Tryz.prog 43 #[e] w (RetV (.bool ok) w) := by
  have HS := Lib.hid hs
  obtain ⟨a, b, ca, cb, ta, tb, h1, h2, hne, h3, h4⟩ := hs.s
  clear hs
  rcases he with ⟨rfl, rfl⟩ | ⟨rfl, rfl, he⟩ | ⟨rfl, rfl, h, b', he, rfl⟩
  · have hz := block_lt_of_cell h1
    simp only [] at hz
    go_enter Tryz.func43, Tryz.ntmps43
    go_wp2_with (first
      | (go_at_call 65; refine (is_nil a _).mono ?_; rintro e w1 ⟨rfl, hb1⟩; have HB1 := Lib.hid hb1; clear hb1)
      | (go_at_call 66; refine (as_nil _ _).mono ?_; rintro e w2 ⟨rfl, hb2⟩))
    go_ret
    exact .mk rfl (below_more (over_alloc HB1.out) hb2)
  · rw [h1] at he
    obtain rfl := Option.some.inj he
    have hz := block_lt_of_cell h1
    simp only [] at hz
    clear he
    go_enter Tryz.func43, Tryz.ntmps43
    go_wp2_with (go_at_call 65; refine (is_same a _).mono ?_; rintro e w1 ⟨rfl, hb1⟩)
    go_ret
    exact .mk rfl (over_alloc hb1)
  · rw [h2] at he
    simp only [Option.some.injEq, Value.iface.injEq, Value.pointer.injEq, true_and] at he
    subst he
    have hz := block_lt_of_cell h1
    simp only [] at hz
    have HA := Lib.hid h3
    have HB := Lib.hid h4
    clear h2 h3 h4
    go_enter Tryz.func43, Tryz.ntmps43
    go_wp2_with fail
    generalize hW : w.alloc (.cells #[.int .i64 0, .nilIface] 84) = x0
    obtain ⟨pb, hsz, bel⟩ := laid1 (ps := [.int .i64 0, .nilIface]) hW
    have PB := Lib.hid pb
    have HL := Lib.hid bel
    clear hW pb bel
    refine (is_refusal h b a cb ca tb ta x0 (fun e => hne e.symm) ((HL.out.block _ (Array.getElem?_eq_some_iff.1 HB.out).1).trans HB.out) ((HL.out.block _ (Array.getElem?_eq_some_iff.1 HA.out).1).trans HA.out)).mono ?_
    rintro e x1 ⟨rfl, hb1⟩
    have PB1 := Lib.hid (PB.out.below hb1)
    have HL1 := Lib.hid (below_more HL.out hb1)
    clear hb1
    go_wp2_with fail
    refine (as_hit h b w.heap.size (.int .i64 0) .nilIface x1 (HS.out.below HL1.out).et (PB1.out.cell 0 rfl) (PB1.out.cell 1 rfl) (PB1.out.free 0) (PB1.out.free 1)).mono ?_
    rintro e x2 ⟨rfl, hx⟩
    have HL2 : Hid (Below w.heap.size w x2) := Lib.hid (by
      rw [hx]
      exact (below_more HL1.out (by go_grown)).setCell (by simp) _ |>.setCell (by simp) _)
    clear hx
    go_wp2
    go_ret
    exact .mk rfl HL2.out
end Go.Proofs.YtnpeojlhjbdjiaaGreatDoor
