/-
  errors.As at a refusal; granted: no error is, neither a label that is not right nor a refusal.
-/
import Derived.Test.YtedaknjjcdlpnaaDoorErrs
import Derived.Test.YtedaknjjcdlpnaaDoorHas
namespace Go.Proofs.YtedaknjjcdlpnaaDoor
set_option maxRecDepth 100000
open Go.RowKit Go.Extern.Stop Go.Stop Go.Extern

theorem er_setR (ta : Nat) (b : Nat) (a : Addr) (h : Int) (o0 o1 : Value) (W : World) (hb0 : W.cell? ⟨b, 0, none⟩ = some (.int .i64 h)) (hb1 : W.cell? ⟨b, 1, none⟩ = some (.iface 139 (.pointer (some a)))) (h0 : W.cell? ⟨ta, 0, none⟩ = some o0) (h1 : W.cell? ⟨ta, 1, none⟩ = some o1) (f0 : W.frozen? ⟨ta, 0, none⟩ = false) (f1 : W.frozen? ⟨ta, 1, none⟩ = false) :
    (ReflectliteValue.set #[.agg #[.pointer (some ⟨4, 86, none⟩), .pointer (some ⟨ta, 0, none⟩), .int .u64 409], .agg #[.pointer (some ⟨4, 86, none⟩), .pointer (some ⟨b, 0, none⟩), .int .u64 153]]).run Tryd.prog W
      = .ok (.tuple #[]) ((W.setCell ⟨ta, 0, none⟩ (.int .i64 h)).setCell ⟨ta, 1, none⟩ (.iface 139 (.pointer (some a)))) := by
  have h1' : (W.setCell ⟨ta, 0, none⟩ (.int .i64 h)).cell? ⟨ta, 1, none⟩ = some o1 := by rw [World.cell?_setCell_other (a := _) (b := _) (h := by simp)]; exact h1
  have f1' : (W.setCell ⟨ta, 0, none⟩ (.int .i64 h)).frozen? ⟨ta, 1, none⟩ = false := by simpa using f1
  rw [rls]
  simp only [Sem.run_bind, er_partsRa, er_partsR, Result.andThen]
  simp [ReflectliteValue.flagAddr, loadVar, isAgg, underlying, Tryd.underlying86, hb0, hb1, Result.andThen, er_directR, storeVar, Value.cells, storeCells, loadCells, loadCellsFrom, Addr.add]
  rw [run_store Tryd.prog W _ _ _ (by rfl)]
  simp [h0, f0]
  rw [run_store Tryd.prog _ _ _ _ (by rfl)]
  simp [h1', f1']

set_option maxHeartbeats 4000000 in
theorem as_hit (h : Int) (a : Addr) (t : Nat) (o0 o1 : Value) (w : World) (hg : w.cell? ⟨3, 0, none⟩ = some (.iface 124 (.agg #[.pointer (some ⟨4, 61, none⟩)]))) (h0 : w.cell? ⟨t, 0, none⟩ = some o0) (h1 : w.cell? ⟨t, 1, none⟩ = some o1) (f0 : w.frozen? ⟨t, 0, none⟩ = false) (f1 : w.frozen? ⟨t, 1, none⟩ = false) :
    Calls Tryd.prog 59 #[.iface 86 (.agg #[.int .i64 h, .iface 139 (.pointer (some a))]), .iface 89 (.pointer (some ⟨t, 0, none⟩))] w fun ev w' => ev = .returned (.bool true) ∧ w' = (((((w.alloc (.cells #[.pointer (some ⟨t, 0, none⟩)] 89)).alloc (.cells #[.pointer (some ⟨4, 89, none⟩), .pointer (some ⟨w.heap.size, 0, none⟩), .int .u64 150] 107)).alloc (.cells #[.pointer (some ⟨4, 89, none⟩), .pointer (some ⟨w.heap.size, 0, none⟩), .int .u64 150] 107)).alloc (.cells #[.int .i64 h, .iface 139 (.pointer (some a))] 86)).setCell ⟨t, 0, none⟩ (.int .i64 h)).setCell ⟨t, 1, none⟩ (.iface 139 (.pointer (some a))) := by
  have e6 := @run_callFunc_extern Tryd.prog 80 _ (fun args => ReflectliteValue.unpack (args.getD 0 (.tuple #[]))) Tryd.func80 (by kernel_rfl) (by kernel_rfl) (by kernel_rfl) (by kernel_rfl)
  have e7 := @run_callFunc_extern Tryd.prog 81 _ ((ReflectliteValue.methodAny (ReflectliteValue.valueError "reflectlite.Value.Type" 0) (fun t _ _ _ => ReflectliteType.toType t))) Tryd.func81 (by kernel_rfl) (by kernel_rfl) (by kernel_rfl) (by kernel_rfl)
  have e8 := @run_callFunc_extern Tryd.prog 82 _ ((ReflectliteValue.method (ReflectliteValue.valueError "reflectlite.Value.IsNil" 0) ReflectliteValue.isNil)) Tryd.func82 (by kernel_rfl) (by kernel_rfl) (by kernel_rfl) (by kernel_rfl)
  have e27 := @run_callFunc_extern Tryd.prog 108 _ ((ReflectliteType.abiMethod fun t => do pure (.int .u8 (← Rtype.kind t)))) Tryd.func108 (by kernel_rfl) (by kernel_rfl) (by kernel_rfl) (by kernel_rfl)
  have e37 := @run_callFunc_extern Tryd.prog 120 _ ((ReflectliteType.method ReflectliteType.elem)) Tryd.func120 (by kernel_rfl) (by kernel_rfl) (by kernel_rfl) (by kernel_rfl)
  have e38 := @run_callFunc_extern Tryd.prog 121 _ ((ReflectliteType.relation "Implements" ReflectliteType.implements_)) Tryd.func121 (by kernel_rfl) (by kernel_rfl) (by kernel_rfl) (by kernel_rfl)
  have e10 := @run_callFunc_extern Tryd.prog 78 _ (ReflectliteType.typeOf) Tryd.func78 (by kernel_rfl) (by kernel_rfl) (by kernel_rfl) (by kernel_rfl)
  have e35 := @run_callFunc_extern Tryd.prog 118 _ ((ReflectliteType.relation "AssignableTo" ReflectliteType.assignableTo)) Tryd.func118 (by kernel_rfl) (by kernel_rfl) (by kernel_rfl) (by kernel_rfl)
  have e11 := @run_callFunc_extern Tryd.prog 92 _ ((ReflectliteValue.method (ReflectliteValue.valueError "reflectlite.Value.Elem" 0) ReflectliteValue.elem)) Tryd.func92 (by kernel_rfl) (by kernel_rfl) (by kernel_rfl) (by kernel_rfl)
  have e12 := @run_callFunc_extern Tryd.prog 93 _ (ReflectliteValue.set) Tryd.func93 (by kernel_rfl) (by kernel_rfl) (by kernel_rfl) (by kernel_rfl)
  have tO := er_typeOfR
  have mA := er_mAssignableTo
  have a25 := er_assignableR
  have v25 := er_valueOfR
  have f6 := er_valueOfP
  have f7 := er_typeP
  have mK := er_mKind
  have mE := er_mElem
  have mI := er_mImplements
  have k27 := er_kindP
  have k25 := er_kindR
  have e27' := er_elemP
  have i25 := er_implementsR
  have hlt := block_lt_of_cell hg
  have htl := block_lt_of_cell h0
  simp only [] at hlt htl
  have n8 := er_isNilP ⟨w.heap.size, 0, none⟩ ⟨t, 0, none⟩ ((w.alloc (.cells #[.pointer (some ⟨t, 0, none⟩)] 89)).alloc (.cells #[.pointer (some ⟨4, 89, none⟩), .pointer (some ⟨w.heap.size, 0, none⟩), .int .u64 150] 107)) (by simp)
  have hg2 : ((w.alloc (.cells #[.pointer (some ⟨t, 0, none⟩)] 89)).alloc (.cells #[.pointer (some ⟨4, 89, none⟩), .pointer (some ⟨w.heap.size, 0, none⟩), .int .u64 150] 107)).cell? ⟨3, 0, none⟩ = some (.iface 124 (.agg #[.pointer (some ⟨4, 61, none⟩)])) := by
    rw [World.cell?_alloc_lt _ _ ⟨3, 0, none⟩ (by simp; omega), World.cell?_alloc_lt _ _ ⟨3, 0, none⟩ hlt]; exact hg
  have el := er_elemVP ⟨w.heap.size, 0, none⟩ ⟨t, 0, none⟩ (((w.alloc (.cells #[.pointer (some ⟨t, 0, none⟩)] 89)).alloc (.cells #[.pointer (some ⟨4, 89, none⟩), .pointer (some ⟨w.heap.size, 0, none⟩), .int .u64 150] 107)).alloc (.cells #[.pointer (some ⟨4, 89, none⟩), .pointer (some ⟨w.heap.size, 0, none⟩), .int .u64 150] 107)) (by rw [World.cell?_alloc_lt _ _ ⟨w.heap.size, 0, none⟩ (by simp; omega)]; simp)
  have hB : Below w.heap.size w ((((w.alloc (.cells #[.pointer (some ⟨t, 0, none⟩)] 89)).alloc (.cells #[.pointer (some ⟨4, 89, none⟩), .pointer (some ⟨w.heap.size, 0, none⟩), .int .u64 150] 107)).alloc (.cells #[.pointer (some ⟨4, 89, none⟩), .pointer (some ⟨w.heap.size, 0, none⟩), .int .u64 150] 107)).alloc (.cells #[.int .i64 h, .iface 139 (.pointer (some a))] 86)) := ((((Below.refl _ _).alloc (Nat.le_refl _) _).alloc (by simp) _).alloc (by simp; omega) _).alloc (by simp; omega) _
  have st := er_setR t (w.heap.size + 1 + 1 + 1) a h o0 o1 ((((w.alloc (.cells #[.pointer (some ⟨t, 0, none⟩)] 89)).alloc (.cells #[.pointer (some ⟨4, 89, none⟩), .pointer (some ⟨w.heap.size, 0, none⟩), .int .u64 150] 107)).alloc (.cells #[.pointer (some ⟨4, 89, none⟩), .pointer (some ⟨w.heap.size, 0, none⟩), .int .u64 150] 107)).alloc (.cells #[.int .i64 h, .iface 139 (.pointer (some a))] 86))
    (by rw [World.cell?_alloc_at _ _ _ _ (by simp)]; rfl) (by rw [World.cell?_alloc_at _ _ _ _ (by simp)]; rfl)
    ((hB.cell (p := ⟨t, 0, none⟩) htl).trans h0) ((hB.cell (p := ⟨t, 1, none⟩) htl).trans h1) ((hB.frozen (p := ⟨t, 0, none⟩) htl).trans f0) ((hB.frozen (p := ⟨t, 1, none⟩) htl).trans f1)
  clear hB
  go_enter Tryd.func59, Tryd.ntmps59
  go_wp2
  refine wp_loop_rounds 1 ?_
  rw [rounds_succ]
  go_wp2
  go_ret
  exact ⟨rfl, rfl⟩

/-- The handle that errors asks for, and a sentinel beside errNotRight. -/
structure Sent (w : World) (g : Nat) : Prop where
  et : w.cell? ⟨3, 0, none⟩ = some (.iface 124 (.agg #[.pointer (some ⟨4, 61, none⟩)]))
  s : ∃ (a b : Addr) (ca cb : Array Value) (ta tb : TypeId), w.cell? ⟨0, 0, none⟩ = some (.iface 139 (.pointer (some a))) ∧ w.cell? ⟨g, 0, none⟩ = some (.iface 139 (.pointer (some b))) ∧ a ≠ b ∧ w.heap[a.block]? = some (.cells ca ta (0, 0)) ∧ w.heap[b.block]? = some (.cells cb tb (0, 0))
theorem Sent.below {w w' : World} {g : Nat} (h : Sent w g) (hb : Below w.heap.size w w') : Sent w' g := by
  obtain ⟨a, b, ca, cb, ta, tb, h1, h2, hne, h3, h4⟩ := h.s
  exact ⟨(hb.cell (block_lt_of_cell h.et)).trans h.et, a, b, ca, cb, ta, tb, (hb.cell (block_lt_of_cell h1)).trans h1, (hb.cell (block_lt_of_cell h2)).trans h2, hne, (hb.block _ (Array.getElem?_eq_some_iff.1 h3).1).trans h3, (hb.block _ (Array.getElem?_eq_some_iff.1 h4).1).trans h4⟩
theorem Sent.drew {w : World} {g : Nat} (h : Sent w g) : Sent w.drew g := h.below (Below.refl _ _).drew

/-- What an answer of allowedTo or acceptedBy is. -/
def IsErr (w : World) (g : Nat) (ok right : Bool) (e : Value) : Prop :=
  (ok = true ∧ e = .nilIface) ∨ (ok = false ∧ right = false ∧ w.cell? ⟨0, 0, none⟩ = some e) ∨
  (ok = false ∧ right = true ∧ ∃ (h : Int) (b : Addr), w.cell? ⟨g, 0, none⟩ = some (.iface 139 (.pointer (some b))) ∧ e = .iface 86 (.agg #[.int .i64 h, .iface 139 (.pointer (some b))]))
set_option maxHeartbeats 2000000 in
theorem impl_granted (g : Nat) (ok right : Bool) (e : Value) (w : World) (hs : Sent w g) (he : IsErr w g ok right e) : Calls Tryd.prog 35 #[e] w (RetV (.bool ok) w) := by
  have HS := Lib.hid hs
  obtain ⟨a, b, ca, cb, ta, tb, h1, h2, hne, h3, h4⟩ := hs.s
  clear hs
  rcases he with ⟨rfl, rfl⟩ | ⟨rfl, rfl, he⟩ | ⟨rfl, rfl, h, b', he, rfl⟩
  · have hz := block_lt_of_cell h1
    simp only [] at hz
    go_enter Tryd.func35, Tryd.ntmps35
    go_wp2_with (first
      | (go_at_call 58; refine (is_nil a _).mono ?_; rintro e w1 ⟨rfl, hb1⟩; have HB1 := Lib.hid hb1; clear hb1)
      | (go_at_call 59; refine (as_nil _ _).mono ?_; rintro e w2 ⟨rfl, hb2⟩))
    go_ret
    exact .mk rfl (below_more (over_alloc HB1.out) hb2)
  · rw [h1] at he
    obtain rfl := Option.some.inj he
    have hz := block_lt_of_cell h1
    simp only [] at hz
    clear he
    go_enter Tryd.func35, Tryd.ntmps35
    go_wp2_with (go_at_call 58; refine (is_same a _).mono ?_; rintro e w1 ⟨rfl, hb1⟩)
    go_ret
    exact .mk rfl (over_alloc hb1)
  · rw [h2] at he
    simp only [Option.some.injEq, Value.iface.injEq, Value.pointer.injEq, true_and] at he
    subst he
    have hz := block_lt_of_cell h1
    simp only [] at hz
    have HA := Lib.hid h3
    have HB := Lib.hid h4
    clear h2 h3 h4
    go_enter Tryd.func35, Tryd.ntmps35
    go_wp2_with fail
    generalize hW : w.alloc (.cells #[.int .i64 0, .nilIface] 86) = x0
    obtain ⟨pb, hsz, bel⟩ := laid1 (ps := [.int .i64 0, .nilIface]) hW
    have PB := Lib.hid pb
    have HL := Lib.hid bel
    clear hW pb bel
    refine (is_refusal h b a cb ca tb ta x0 (fun e => hne e.symm) ((HL.out.block _ (Array.getElem?_eq_some_iff.1 HB.out).1).trans HB.out) ((HL.out.block _ (Array.getElem?_eq_some_iff.1 HA.out).1).trans HA.out)).mono ?_
    rintro e x1 ⟨rfl, hb1⟩
    have PB1 := Lib.hid (PB.out.below hb1)
    have HL1 := Lib.hid (below_more HL.out hb1)
    clear hb1
    go_wp2_with fail
    refine (as_hit h b w.heap.size (.int .i64 0) .nilIface x1 (HS.out.below HL1.out).et (PB1.out.cell 0 rfl) (PB1.out.cell 1 rfl) (PB1.out.free 0) (PB1.out.free 1)).mono ?_
    rintro e x2 ⟨rfl, hx⟩
    have HL2 : Hid (Below w.heap.size w x2) := Lib.hid (by
      rw [hx]
      exact (below_more HL1.out (by go_grown)).setCell (by simp) _ |>.setCell (by simp) _)
    clear hx
    go_wp2
    go_ret
    exact .mk rfl HL2.out
end Go.Proofs.YtedaknjjcdlpnaaDoor
