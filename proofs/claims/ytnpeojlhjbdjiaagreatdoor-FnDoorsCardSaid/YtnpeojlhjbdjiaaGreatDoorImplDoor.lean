/-
  Texts put together: ImplHandle, ImplDoor0, ImplDoor. What each proves stands ahead of it.
-/
import Derived.Test.YtnpeojlhjbdjiaaGreatDoorHandle
import Derived.Laws.StructEq
import Derived.Deep.RegionHeld3
import Derived.Deep.RegionWith
import Derived.WalkSpells
import Derived.Test.YtnpeojlhjbdjiaaGreatDoorDHelp
import Derived.Test.YtnpeojlhjbdjiaaGreatDoorDoorPure
import Derived.Test.YtnpeojlhjbdjiaaGreatDoorSpecDoor
import Derived.Test.YtnpeojlhjbdjiaaGreatDoorImplLab1
import Derived.Test.YtnpeojlhjbdjiaaGreatDoorImplTerms0
import Derived.Test.YtnpeojlhjbdjiaaGreatDoorSpecOpen
import Derived.Test.YtnpeojlhjbdjiaaGreatDoorImplLab3
/-
  Chapter 6 of the program: an origin's nearest, whether it keeps to the limits, HandleOf and MakerOf.
-/
namespace Go.Proofs.YtnpeojlhjbdjiaaGreatDoor
set_option maxRecDepth 100000
open Go.RowKit

/-- Of a number, the nearest from 0 to hi. -/
def nearIn (x hi : Int) : Int := if hi < (if 0 > x then 0 else x) then hi else (if 0 > x then 0 else x)
theorem near_yes {x hi : Int} (h : 0 ≤ x) (k : x ≤ hi) : nearIn x hi = x := by unfold nearIn; split <;> split <;> omega
theorem near_is {x hi v : Int} (h : (x < 0 ∧ v = 0 ∧ 0 ≤ hi) ∨ (0 ≤ x ∧ hi < x ∧ v = hi) ∨ (0 ≤ x ∧ x ≤ hi ∧ v = x)) : nearIn x hi = v := by
  unfold nearIn
  by_cases k : 0 > x
  · simp only [k, if_true]
    split <;> omega
  · simp only [k, if_false]
    split <;> omega
theorem agg2 {a b c d : Int} (h : c = a) (k : d = b) : Ending.returned (.agg #[.int .i64 a, .int .i64 b]) = .returned (.agg #[.int .i64 c, .int .i64 d]) := by rw [h, k]
theorem near_eq {x hi : Int} (hh : 0 ≤ hi) (h : nearIn x hi = x) : 0 ≤ x ∧ x ≤ hi := by
  unfold nearIn at h
  by_cases k : 0 > x
  · simp only [k, if_true] at h
    split at h <;> omega
  · simp only [k, if_false] at h
    split at h <;> omega
def origOk (a b : Int) : Bool := (a == nearIn a 3) && (b == nearIn b 8)
theorem origOk_iff (a b : Int) : origOk a b = true ↔ (0 ≤ a ∧ a ≤ 3 ∧ 0 ≤ b ∧ b ≤ 8) := by
  unfold origOk
  simp only [Bool.and_eq_true, beq_iff_eq]
  constructor
  · rintro ⟨h, k⟩
    have := near_eq (by omega) h.symm
    have := near_eq (by omega) k.symm
    omega
  · rintro ⟨h0, h1, h2, h3⟩
    exact ⟨(near_yes h0 h1).symm, (near_yes h2 h3).symm⟩

theorem impl_nearest (a b : Int) (w : World) : Calls Tryz.prog 79 #[.agg #[.int .i64 a, .int .i64 b]] w (RetV (.agg #[.int .i64 (nearIn a 3), .int .i64 (nearIn b 8)]) w) := by
  go_enter Tryz.func79, Tryz.ntmps79
  go_wp2
  all_goals
    go_returns
    exact .mk (agg2 (near_is (by omega)) (near_is (by omega))) (by go_grown)

theorem eq_orig (x y : Operand) (a b c d : Int) (w : World) : (eqGuard .eql 75 x y (.agg #[.int .i64 a, .int .i64 b]) (.agg #[.int .i64 c, .int .i64 d])).run Tryz.prog w = .ok () w ∧
    (binOp .eql 75 (.agg #[.int .i64 a, .int .i64 b]) (.agg #[.int .i64 c, .int .i64 d])).run Tryz.prog w = .ok (.bool (a == c && b == d)) w := by
  refine ⟨run_eqGuard_agg w _ _ _ _ _ _ (by kernel_rfl), ?_⟩
  have hS : Tryz.prog.underlying 75 = some (.struct (Tryz.prog.fieldsOf 75)) := by kernel_rfl
  have hp : Tryz.prog.stoodInHeld 75 = false := by kernel_rfl
  have u := Tryz.underlying2
  have g := Tryz.isAgg2
  have z := Tryz.sizeOf2
  rw [run_eql_struct, show (10000 : Nat) = 9999 + 1 from rfl, run_equalIn_agg w 9999 75 _ _ hS hp]
  simp only [Program.fieldsOf, Tryz.underlying75]
  go_simp
  by_cases h1 : a = c <;> by_cases h2 : b = d <;> simp [h1, h2]

theorem impl_origok (a b : Int) (w : World) : Calls Tryz.prog 56 #[.agg #[.int .i64 a, .int .i64 b]] w (RetV (.bool (origOk a b)) w) := by
  have HG : ∀ x y w, (eqGuard .eql 75 x y (.agg #[.int .i64 a, .int .i64 b]) (.agg #[.int .i64 (nearIn a 3), .int .i64 (nearIn b 8)])).run Tryz.prog w = .ok () w := fun x y w => (eq_orig x y a b _ _ w).1
  have HB : ∀ w, (binOp .eql 75 (.agg #[.int .i64 a, .int .i64 b]) (.agg #[.int .i64 (nearIn a 3), .int .i64 (nearIn b 8)])).run Tryz.prog w = .ok (.bool (origOk a b)) w := fun w => (eq_orig (.tmp 0) (.tmp 0) a b _ _ w).2
  go_enter Tryz.func56, Tryz.ntmps56
  go_wp2
  generalize hW : (w.alloc (.cells #[.int .i64 a, .int .i64 b] 75)) = w2
  have e0 : w2.cell? ⟨w.heap.size, 0, none⟩ = some (.int .i64 a) := by subst hW; go_simp
  have e1 : w2.cell? ⟨w.heap.size, 1, none⟩ = some (.int .i64 b) := by subst hW; go_simp
  have hs : w.heap.size < w2.heap.size := by subst hW; simp
  have hb2 : Below w.heap.size w w2 := by subst hW; go_grown
  have HC := Lib.hid (Below.refl w2.heap.size w2)
  clear hW
  go_region_held3 (fun w' => w'.cell? ⟨w.heap.size, 0, none⟩ = some (.int .i64 a) ∧ w'.cell? ⟨w.heap.size, 1, none⟩ = some (.int .i64 b))
    (first | exact ⟨e0, e1⟩ | exact ⟨f0, f1⟩ | go_keep)
    (first
      | (go_at_call 79
         refine (impl_nearest _ _ _).mono ?_
         rintro e w3 ⟨rfl, hb3⟩
         have HC : Hid (Below w2.heap.size w2 w3) := Lib.hid (by first | exact below_more HC.out hb3 | exact below_more HC.out (below_undrew hb3))
         have f0 : w3.cell? ⟨w.heap.size, 0, none⟩ = some (.int .i64 a) := (HC.out.cell (by simp only []; omega)).trans e0
         have f1 : w3.cell? ⟨w.heap.size, 1, none⟩ = some (.int .i64 b) := (HC.out.cell (by simp only []; omega)).trans e1))
  all_goals
    go_wp2
    go_ret
    exact .mk rfl (below_more hb2 HC.out)

theorem impl_originof (h : Int) (w : World) (e1 : IntKind.i64.wrap (Int.tdiv h 100) = Int.tdiv h 100) (_e2 : IntKind.i64.wrap (Int.tmod h 100) = Int.tmod h 100) : Calls Tryz.prog 55 #[.int .i64 h] w (RetV (.agg #[.int .i64 (Int.tdiv h 100), .int .i64 (Int.tmod h 100)]) w) := by
  go_enter Tryz.func55, Tryz.ntmps55
  go_wp2
  go_returns
  exact .mk rfl (by go_grown)

end Go.Proofs.YtnpeojlhjbdjiaaGreatDoor

/-
  Chapter 7 of the program: MsgOk, whether shares are kept, DoorOk.
-/
namespace Go.Proofs.YtnpeojlhjbdjiaaGreatDoor
set_option maxRecDepth 100000
open Go.RowKit

theorem impl_who (x : Int) (w : World) : Calls Tryz.prog 61 #[.int .i64 x] w (RetS (.bool (inR x 0 3)) w) := by
  by_cases h0 : 0 ≤ x
  · by_cases h1 : x ≤ 3
    · have HR := Lib.hid (show inR x 0 3 = true by simp [inR, h0, h1])
      have h2 : x < 4 := by omega
      go_enter Tryz.func61, Tryz.ntmps61
      go_wp2
      go_ret
      exact .mk (by rw [HR.out]; rfl)
    · have HR := Lib.hid (show inR x 0 3 = false by simp [inR, h1])
      have h2 : ¬ x < 4 := by omega
      go_enter Tryz.func61, Tryz.ntmps61
      go_wp2
      go_ret
      exact .mk (by rw [HR.out]; rfl)
  · have HR := Lib.hid (show inR x 0 3 = false by simp [inR, h0])
    go_enter Tryz.func61, Tryz.ntmps61
    go_wp2
    go_ret
    exact .mk (by rw [HR.out]; rfl)
theorem impl_valueinr (x : Int) (w : World) : Calls Tryz.prog 62 #[.int .i64 x] w (RetS (.bool (inR x 0 999999)) w) := by
  by_cases h0 : 0 ≤ x
  · by_cases h1 : x ≤ 999999
    · have HR := Lib.hid (show inR x 0 999999 = true by simp [inR, h0, h1])
      have h2 : x < 1000000 := by omega
      go_enter Tryz.func62, Tryz.ntmps62
      go_wp2
      go_ret
      exact .mk (by rw [HR.out]; rfl)
    · have HR := Lib.hid (show inR x 0 999999 = false by simp [inR, h1])
      have h2 : ¬ x < 1000000 := by omega
      go_enter Tryz.func62, Tryz.ntmps62
      go_wp2
      go_ret
      exact .mk (by rw [HR.out]; rfl)
  · have HR := Lib.hid (show inR x 0 999999 = false by simp [inR, h0])
    go_enter Tryz.func62, Tryz.ntmps62
    go_wp2
    go_ret
    exact .mk (by rw [HR.out]; rfl)
theorem implD_labok0 {us : List Value} {l : Lab} {w : World} (h : Rds w (dtLab l) us) (hf : l.parts.length ≤ 1048576) : Calls Tryz.prog 58 #[.agg us.toArray] w (RetV (.bool (labOk l)) w) := impl_labok0 _ l w (h.lab hf)
theorem implD_termsok {us : List Value} {t : Tm} {w : World} (h : Rds w (dtTm t) us) (hf : tmSz t ≤ 1048576) : Calls Tryz.prog 63 #[.agg us.toArray] w (RetV (.bool (termsOk t)) w) := impl_termsok _ t w (h.tm hf)
set_option maxHeartbeats 4000000 in
theorem implD_msgok1 {us : List Value} {x : Ms} {w : World} (h : Rds w (dtMs x) us) (hf : msSz x ≤ 1048576) : Calls Tryz.prog 37 #[.agg us.toArray] w (RetV (.bool (msgOk x)) w) := by
  unfold dtMs at h
  obtain ⟨us, rfl, hg1⟩ := h.num
  clear h
  obtain ⟨us, rfl, hg2⟩ := hg1.num
  clear hg1
  obtain ⟨uf, us, rfl, hf2, hg3⟩ := hg2.split
  clear hg2
  obtain ⟨A0, n0, c0, rfl⟩ := shp_lab hf2
  have H2 := Lib.hid hf2
  clear hf2
  obtain ⟨A1, n1, c1, A2, n2, c2, A3, n3, c3, A4, n4, c4, rfl⟩ := shp_tm hg3
  have H3 := Lib.hid hg3
  clear hg3
  simp only [List.cons_append, List.nil_append]
  unfold msSz at hf
  have S2 : x.eff.parts.length ≤ 1048576 := by omega
  have S3 : tmSz x.terms ≤ 1048576 := by omega
  cases e0 : inR x.frm 0 3
  · skip
    have HR : Hid (msgOk x = false) := Lib.hid (by simp [msgOk, e0])
    go_enter Tryz.func37, Tryz.ntmps37
    go_wp2_with fail
    generalize hW : w.alloc (.cells #[.int .i64 x.frm, .int .i64 x.value, .int .i64 x.eff.base, .slice A0 n0 c0, .int .i64 x.terms.taint.base, .slice A1 n1 c1, .int .i64 x.terms.clear.base, .slice A2 n2 c2, .int .i64 x.terms.raise.base, .slice A3 n3 c3, .int .i64 x.terms.verify.base, .slice A4 n4 c4] 35) = x0
    obtain ⟨pb, hsz, bel⟩ := laid1 (ps := [.int .i64 x.frm, .int .i64 x.value, .int .i64 x.eff.base, .slice A0 n0 c0, .int .i64 x.terms.taint.base, .slice A1 n1 c1, .int .i64 x.terms.clear.base, .slice A2 n2 c2, .int .i64 x.terms.raise.base, .slice A3 n3 c3, .int .i64 x.terms.verify.base, .slice A4 n4 c4]) hW
    have PB := Lib.hid pb
    clear hW pb hsz
    refine (impl_who x.frm _).mono ?_
    rintro e y0 ⟨rfl, rfl⟩
    go_wp2
    go_ret
    exact .mk (by rw [HR.out]; rfl) bel
  cases e1 : inR x.value 0 999999
  · skip
    have HR : Hid (msgOk x = false) := Lib.hid (by simp [msgOk, e0, e1])
    go_enter Tryz.func37, Tryz.ntmps37
    go_wp2_with fail
    generalize hW : w.alloc (.cells #[.int .i64 x.frm, .int .i64 x.value, .int .i64 x.eff.base, .slice A0 n0 c0, .int .i64 x.terms.taint.base, .slice A1 n1 c1, .int .i64 x.terms.clear.base, .slice A2 n2 c2, .int .i64 x.terms.raise.base, .slice A3 n3 c3, .int .i64 x.terms.verify.base, .slice A4 n4 c4] 35) = x0
    obtain ⟨pb, hsz, bel⟩ := laid1 (ps := [.int .i64 x.frm, .int .i64 x.value, .int .i64 x.eff.base, .slice A0 n0 c0, .int .i64 x.terms.taint.base, .slice A1 n1 c1, .int .i64 x.terms.clear.base, .slice A2 n2 c2, .int .i64 x.terms.raise.base, .slice A3 n3 c3, .int .i64 x.terms.verify.base, .slice A4 n4 c4]) hW
    have PB := Lib.hid pb
    clear hW pb hsz
    refine (impl_who x.frm _).mono ?_
    rintro e y0 ⟨rfl, rfl⟩
    have pc1 := PB.out.cell 1 rfl
    go_wp2_with fail
    refine (impl_valueinr x.value _).mono ?_
    rintro e y1 ⟨rfl, rfl⟩
    clear pc1
    go_wp2
    go_ret
    exact .mk (by rw [HR.out]; rfl) bel
  cases e2 : labOk x.eff
  · skip
    have HR : Hid (msgOk x = false) := Lib.hid (by simp [msgOk, e0, e1, e2])
    go_enter Tryz.func37, Tryz.ntmps37
    go_wp2_with fail
    generalize hW : w.alloc (.cells #[.int .i64 x.frm, .int .i64 x.value, .int .i64 x.eff.base, .slice A0 n0 c0, .int .i64 x.terms.taint.base, .slice A1 n1 c1, .int .i64 x.terms.clear.base, .slice A2 n2 c2, .int .i64 x.terms.raise.base, .slice A3 n3 c3, .int .i64 x.terms.verify.base, .slice A4 n4 c4] 35) = x0
    obtain ⟨pb, hsz, bel⟩ := laid1 (ps := [.int .i64 x.frm, .int .i64 x.value, .int .i64 x.eff.base, .slice A0 n0 c0, .int .i64 x.terms.taint.base, .slice A1 n1 c1, .int .i64 x.terms.clear.base, .slice A2 n2 c2, .int .i64 x.terms.raise.base, .slice A3 n3 c3, .int .i64 x.terms.verify.base, .slice A4 n4 c4]) hW
    have PB := Lib.hid pb
    clear hW pb hsz
    refine (impl_who x.frm _).mono ?_
    rintro e y0 ⟨rfl, rfl⟩
    have pc1 := PB.out.cell 1 rfl
    go_wp2_with fail
    refine (impl_valueinr x.value _).mono ?_
    rintro e y1 ⟨rfl, rfl⟩
    clear pc1
    have pc2 := PB.out.cell 2 rfl
    have pc3 := PB.out.cell 3 rfl
    go_wp2_with fail
    refine (implD_labok0 (H2.out.below bel) S2).mono ?_
    rintro e y2 ⟨rfl, hb⟩
    have PB' := Lib.hid (PB.out.below hb)
    have bel' := below_more bel hb
    clear PB bel hb
    have PB := PB'
    have bel := bel'
    clear PB' bel'
    clear pc2 pc3
    go_wp2
    go_ret
    exact .mk (by rw [HR.out]; rfl) bel
  cases e3 : termsOk x.terms
  · skip
    have HR : Hid (msgOk x = false) := Lib.hid (by simp [msgOk, e0, e1, e2, e3])
    go_enter Tryz.func37, Tryz.ntmps37
    go_wp2_with fail
    generalize hW : w.alloc (.cells #[.int .i64 x.frm, .int .i64 x.value, .int .i64 x.eff.base, .slice A0 n0 c0, .int .i64 x.terms.taint.base, .slice A1 n1 c1, .int .i64 x.terms.clear.base, .slice A2 n2 c2, .int .i64 x.terms.raise.base, .slice A3 n3 c3, .int .i64 x.terms.verify.base, .slice A4 n4 c4] 35) = x0
    obtain ⟨pb, hsz, bel⟩ := laid1 (ps := [.int .i64 x.frm, .int .i64 x.value, .int .i64 x.eff.base, .slice A0 n0 c0, .int .i64 x.terms.taint.base, .slice A1 n1 c1, .int .i64 x.terms.clear.base, .slice A2 n2 c2, .int .i64 x.terms.raise.base, .slice A3 n3 c3, .int .i64 x.terms.verify.base, .slice A4 n4 c4]) hW
    have PB := Lib.hid pb
    clear hW pb hsz
    refine (impl_who x.frm _).mono ?_
    rintro e y0 ⟨rfl, rfl⟩
    have pc1 := PB.out.cell 1 rfl
    go_wp2_with fail
    refine (impl_valueinr x.value _).mono ?_
    rintro e y1 ⟨rfl, rfl⟩
    clear pc1
    have pc2 := PB.out.cell 2 rfl
    have pc3 := PB.out.cell 3 rfl
    go_wp2_with fail
    refine (implD_labok0 (H2.out.below bel) S2).mono ?_
    rintro e y2 ⟨rfl, hb⟩
    have PB' := Lib.hid (PB.out.below hb)
    have bel' := below_more bel hb
    clear PB bel hb
    have PB := PB'
    have bel := bel'
    clear PB' bel'
    clear pc2 pc3
    have pc4 := PB.out.cell 4 rfl
    have pc5 := PB.out.cell 5 rfl
    have pc6 := PB.out.cell 6 rfl
    have pc7 := PB.out.cell 7 rfl
    have pc8 := PB.out.cell 8 rfl
    have pc9 := PB.out.cell 9 rfl
    have pc10 := PB.out.cell 10 rfl
    have pc11 := PB.out.cell 11 rfl
    go_wp2_with fail
    refine (implD_termsok (H3.out.below bel) S3).mono ?_
    rintro e y3 ⟨rfl, hb⟩
    have PB' := Lib.hid (PB.out.below hb)
    have bel' := below_more bel hb
    clear PB bel hb
    have PB := PB'
    have bel := bel'
    clear PB' bel'
    clear pc4 pc5 pc6 pc7 pc8 pc9 pc10 pc11
    go_wp2
    go_ret
    exact .mk (by rw [HR.out]; rfl) bel
  have HR : Hid (msgOk x = true) := Lib.hid (by simp [msgOk, e0, e1, e2, e3])
  go_enter Tryz.func37, Tryz.ntmps37
  go_wp2_with fail
  generalize hW : w.alloc (.cells #[.int .i64 x.frm, .int .i64 x.value, .int .i64 x.eff.base, .slice A0 n0 c0, .int .i64 x.terms.taint.base, .slice A1 n1 c1, .int .i64 x.terms.clear.base, .slice A2 n2 c2, .int .i64 x.terms.raise.base, .slice A3 n3 c3, .int .i64 x.terms.verify.base, .slice A4 n4 c4] 35) = x0
  obtain ⟨pb, hsz, bel⟩ := laid1 (ps := [.int .i64 x.frm, .int .i64 x.value, .int .i64 x.eff.base, .slice A0 n0 c0, .int .i64 x.terms.taint.base, .slice A1 n1 c1, .int .i64 x.terms.clear.base, .slice A2 n2 c2, .int .i64 x.terms.raise.base, .slice A3 n3 c3, .int .i64 x.terms.verify.base, .slice A4 n4 c4]) hW
  have PB := Lib.hid pb
  clear hW pb hsz
  refine (impl_who x.frm _).mono ?_
  rintro e y0 ⟨rfl, rfl⟩
  have pc1 := PB.out.cell 1 rfl
  go_wp2_with fail
  refine (impl_valueinr x.value _).mono ?_
  rintro e y1 ⟨rfl, rfl⟩
  clear pc1
  have pc2 := PB.out.cell 2 rfl
  have pc3 := PB.out.cell 3 rfl
  go_wp2_with fail
  refine (implD_labok0 (H2.out.below bel) S2).mono ?_
  rintro e y2 ⟨rfl, hb⟩
  have PB' := Lib.hid (PB.out.below hb)
  have bel' := below_more bel hb
  clear PB bel hb
  have PB := PB'
  have bel := bel'
  clear PB' bel'
  clear pc2 pc3
  have pc4 := PB.out.cell 4 rfl
  have pc5 := PB.out.cell 5 rfl
  have pc6 := PB.out.cell 6 rfl
  have pc7 := PB.out.cell 7 rfl
  have pc8 := PB.out.cell 8 rfl
  have pc9 := PB.out.cell 9 rfl
  have pc10 := PB.out.cell 10 rfl
  have pc11 := PB.out.cell 11 rfl
  go_wp2_with fail
  refine (implD_termsok (H3.out.below bel) S3).mono ?_
  rintro e y3 ⟨rfl, hb⟩
  have PB' := Lib.hid (PB.out.below hb)
  have bel' := below_more bel hb
  clear PB bel hb
  have PB := PB'
  have bel := bel'
  clear PB' bel'
  clear pc4 pc5 pc6 pc7 pc8 pc9 pc10 pc11
  go_wp2
  go_ret
  exact .mk (by rw [HR.out]; rfl) bel
set_option maxHeartbeats 4000000 in
theorem implD_msgok {us : List Value} {x : Ms} {w : World} (h : Rds w (dtMs x) us) (hf : msSz x ≤ 1048576) : Calls Tryz.prog 15 #[.agg us.toArray] w (RetV (.bool (msgOk x)) w) := by
  have HH := Lib.hid h
  obtain ⟨A0, n0, c0, A1, n1, c1, A2, n2, c2, A3, n3, c3, A4, n4, c4, rfl⟩ := shp_ms h
  clear h
  go_enter Tryz.func15, Tryz.ntmps15
  go_wp2_with fail
  generalize hW : w.alloc (.cells #[.int .i64 x.frm, .int .i64 x.value, .int .i64 x.eff.base, .slice A0 n0 c0, .int .i64 x.terms.taint.base, .slice A1 n1 c1, .int .i64 x.terms.clear.base, .slice A2 n2 c2, .int .i64 x.terms.raise.base, .slice A3 n3 c3, .int .i64 x.terms.verify.base, .slice A4 n4 c4] 35) = x0
  obtain ⟨pb, hsz, bel⟩ := laid1 (ps := [.int .i64 x.frm, .int .i64 x.value, .int .i64 x.eff.base, .slice A0 n0 c0, .int .i64 x.terms.taint.base, .slice A1 n1 c1, .int .i64 x.terms.clear.base, .slice A2 n2 c2, .int .i64 x.terms.raise.base, .slice A3 n3 c3, .int .i64 x.terms.verify.base, .slice A4 n4 c4]) hW
  have PB := Lib.hid pb
  clear hW pb hsz
  refine (implD_msgok1 (HH.out.below bel) hf).mono ?_
  rintro e y0 ⟨rfl, hb⟩
  go_wp2
  go_ret
  exact .mk rfl (below_more bel hb)
/-- How many of each sender so far. -/
def shs (q : List Ms) (k : Nat) : List Value := [.int .i64 (share (q.take k) 0), .int .i64 (share (q.take k) 1), .int .i64 (share (q.take k) 2), .int .i64 (share (q.take k) 3)]
theorem shs_at (q : List Ms) (k : Nat) {f : Nat} (h : f < 4) : (shs q k)[f]? = some (.int .i64 (share (q.take k) f)) := by
  match f, h with
  | 0, _ => rfl
  | 1, _ => rfl
  | 2, _ => rfl
  | 3, _ => rfl
theorem shs_set {q : List Ms} {k f : Nat} {x : Ms} (hx : q[k]? = some x) (hf : x.frm = f) (h : f < 4) : (shs q k).set f (.int .i64 (share (q.take k) f + 1)) = shs q (k + 1) := by
  have hy := share_yes hx hf
  have hn := fun g (hg : x.frm ≠ g) => share_no hx hg
  match f, h with
  | 0, _ =>
    have hy' : share (q.take (k + 1)) 0 = share (q.take k) 0 + 1 := hy
    unfold shs; rw [hn 1 (by omega), hn 2 (by omega), hn 3 (by omega), hy']; rfl
  | 1, _ =>
    have hy' : share (q.take (k + 1)) 1 = share (q.take k) 1 + 1 := hy
    unfold shs; rw [hn 0 (by omega), hn 2 (by omega), hn 3 (by omega), hy']; rfl
  | 2, _ =>
    have hy' : share (q.take (k + 1)) 2 = share (q.take k) 2 + 1 := hy
    unfold shs; rw [hn 0 (by omega), hn 1 (by omega), hn 3 (by omega), hy']; rfl
  | 3, _ =>
    have hy' : share (q.take (k + 1)) 3 = share (q.take k) 3 + 1 := hy
    unfold shs; rw [hn 0 (by omega), hn 1 (by omega), hn 2 (by omega), hy']; rfl
theorem share_cons (m : Ms) (q : List Ms) (g : Int) : share (m :: q) g = share q g + (if m.frm = g then 1 else 0) := by
  unfold share
  by_cases h : m.frm = g <;> simp [h]
theorem share_take_le (q : List Ms) (k : Nat) (g : Int) : share (q.take k) g ≤ share q g := by
  have e : q = q.take k ++ q.drop k := (List.take_append_drop k q).symm
  have : share q g = share (q.take k) g + share (q.drop k) g := by
    conv => lhs; rw [e]
    unfold share; rw [List.filter_append, List.length_append]; omega
  have := share_pos (q.drop k) g
  omega
theorem frm_of_ok {m : Ms} (h : msgOk m = true) : 0 ≤ m.frm ∧ m.frm ≤ 3 := by
  unfold msgOk inR at h
  simp only [Bool.and_eq_true, decide_eq_true_eq] at h
  exact h.1
theorem len_shares : ∀ {q : List Ms}, (∀ m ∈ q, msgOk m = true) → (q.length : Int) = share q 0 + share q 1 + share q 2 + share q 3
  | [], _ => by simp [share]
  | m :: q, h => by
    have ih := len_shares (q := q) (fun x hx => h x (List.mem_cons_of_mem _ hx))
    have hm := frm_of_ok (h m (List.mem_cons_self ..))
    simp only [share_cons, List.length_cons]
    have : m.frm = 0 ∨ m.frm = 1 ∨ m.frm = 2 ∨ m.frm = 3 := by omega
    rcases this with e | e | e | e <;> simp [e] <;> omega
def kept (q : List Ms) : Bool := decide (q.length ≤ 12) && q.all (eachOk q)
theorem kept_m {q : List Ms} {k : Nat} {m : Ms} (hx : q[k]? = some m) (h : msgOk m = false) : kept q = false := by
  have : q.all (eachOk q) = false := by rw [List.all_eq_false]; exact ⟨m, List.mem_of_getElem? hx, by simp [eachOk, h]⟩
  simp [kept, this]
theorem kept_s {q : List Ms} {k : Nat} {m : Ms} (hx : q[k]? = some m) (h : share (q.take k) m.frm = 3) : kept q = false := by
  have h1 := share_yes hx rfl
  have h2 := share_take_le q (k + 1) m.frm
  have h3 : ¬ share q m.frm ≤ 3 := by omega
  have : q.all (eachOk q) = false := by rw [List.all_eq_false]; exact ⟨m, List.mem_of_getElem? hx, by simp [eachOk, h3]⟩
  simp [kept, this]
/-- So far all right, and no share passed. -/
def SoFar (q : List Ms) (k : Nat) : Prop := (∀ m ∈ q.take k, msgOk m = true) ∧ ∀ g : Int, 0 ≤ g → g ≤ 3 → share (q.take k) g ≤ 3
theorem SoFar.zero (q : List Ms) : SoFar q 0 := ⟨fun m h => by simp at h, fun g _ _ => by simp [share]⟩
theorem SoFar.succ {q : List Ms} {k : Nat} {m : Ms} (h : SoFar q k) (hx : q[k]? = some m) (ho : msgOk m = true) (hs : share (q.take k) m.frm ≠ 3) : SoFar q (k + 1) := by
  refine ⟨fun x hm => ?_, fun g g0 g1 => ?_⟩
  · rw [take_at hx] at hm
    rcases List.mem_append.1 hm with q1 | q1
    · exact h.1 x q1
    · rw [List.mem_singleton.1 q1]; exact ho
  · have hf := frm_of_ok ho
    by_cases e : m.frm = g
    · rw [share_yes hx e]
      have := h.2 g g0 g1
      rw [e] at hs
      omega
    · rw [share_no hx e]; exact h.2 g g0 g1
theorem SoFar.done {q : List Ms} {k : Nat} (h : SoFar q k) (hk : q.length ≤ k) : kept q = true := by
  obtain ⟨h1, h2⟩ := h
  rw [List.take_of_length_le hk] at h1 h2
  have h3 := len_shares h1
  have a0 := h2 0 (by omega) (by omega)
  have a1 := h2 1 (by omega) (by omega)
  have a2 := h2 2 (by omega) (by omega)
  have a3 := h2 3 (by omega) (by omega)
  have h4 : q.length ≤ 12 := by omega
  have h5 : q.all (eachOk q) = true := by
    rw [List.all_eq_true]
    intro m hm
    have ho := h1 m hm
    have hf := frm_of_ok ho
    have := h2 m.frm hf.1 hf.2
    simp [eachOk, ho, this]
  simp [kept, h4, h5]
theorem doorOk_kept (x : Door) : doorOk x = (decide (0 ≤ makerOf x.handle) && (labOk x.label && kept x.queue)) := rfl

set_option maxHeartbeats 8000000 in
theorem implD_shareskept {A : Option Addr} {n c : Nat} {t : TypeId} {q : List Ms} {w : World} (h : Rd w (.row 12 t (q.flatMap dtMs)) (.slice A n c)) (hf : mssSz q ≤ 1048576) : Calls Tryz.prog 59 #[.slice A n c] w (RetV (.bool (kept q)) w) := by
  unfold mssSz at hf
  obtain ⟨HN, -, -⟩ := h.len dtMs_len (by omega)
  have HNX := Lib.hid HN
  have HQ := Lib.hid h
  have HSZ := Lib.hid hf
  have hnl : n ≤ 1048576 := by omega
  clear HN h hf
  go_enter Tryz.func59, Tryz.ntmps59
  go_wp2_with fail
  generalize hW : w.alloc (.cells #[.int .i64 0, .int .i64 0, .int .i64 0, .int .i64 0] 99) = x0
  obtain ⟨pb, hsz, bel0⟩ := laid1 (ps := [.int .i64 0, .int .i64 0, .int .i64 0, .int .i64 0]) hW
  have PB0 : Hid (Box x0 w.heap.size (shs q 0)) := Lib.hid pb
  have HBE := Lib.hid bel0
  clear hW pb hsz bel0
  go_wp2
  go_loopw [8] (fun i wr => ∃ k : Nat, k ≤ n ∧ i = .int .i64 k ∧ Hid (SoFar q k) ∧ Hid (Box wr w.heap.size (shs q k)) ∧ Hid (Below w.heap.size w wr)) (fun i _ => n - (intOf i).toNat)
  case atStart => exact ⟨0, by omega, rfl, Lib.hid (.zero _), PB0, HBE⟩
  case round =>
    clear PB0 HBE
    obtain ⟨k, hk, rfl, HS, PB, HB⟩ := hrel
    have bel := HB.out
    clear HB
    by_cases hlt : k < n
    · obtain ⟨m, hm⟩ : ∃ m, q[k]? = some m := ⟨q[k]'(by have := HNX.out; omega), List.getElem?_eq_getElem _⟩
      obtain ⟨b, o, B0, m0, d0, B1, m1, d1, B2, m2, d2, B3, m3, d3, B4, m4, d4, rfl, cx0, cx1, cx2, cx3, cx4, cx5, cx6, cx7, cx8, cx9, cx10, cx11, hr⟩ := at_mss (HQ.out.below bel) hm
      have FM : msSz m ≤ 1048576 := by have := mssSum_at hm; have := HSZ.out; omega
      have HE := Lib.hid hr
      have HM := Lib.hid hm
      clear hr hm
      go_wp2_with fail
      generalize hW : wr.alloc (.cells #[.int .i64 m.frm, .int .i64 m.value, .int .i64 m.eff.base, .slice B0 m0 d0, .int .i64 m.terms.taint.base, .slice B1 m1 d1, .int .i64 m.terms.clear.base, .slice B2 m2 d2, .int .i64 m.terms.raise.base, .slice B3 m3 d3, .int .i64 m.terms.verify.base, .slice B4 m4 d4] 35) = x1
      obtain ⟨nb, hsz, hb⟩ := laid1 (ps := [.int .i64 m.frm, .int .i64 m.value, .int .i64 m.eff.base, .slice B0 m0 d0, .int .i64 m.terms.taint.base, .slice B1 m1 d1, .int .i64 m.terms.clear.base, .slice B2 m2 d2, .int .i64 m.terms.raise.base, .slice B3 m3 d3, .int .i64 m.terms.verify.base, .slice B4 m4 d4]) hW
      have MB := Lib.hid nb
      have PB1 := Lib.hid (PB.out.below hb)
      have HE1 := Lib.hid (HE.out.below hb)
      have hz := Lib.hid bel.size
      have bel1 := below_more bel hb
      clear hW nb hsz hb bel PB HE cx0 cx1 cx2 cx3 cx4 cx5 cx6 cx7 cx8 cx9 cx10 cx11
      refine (implD_msgok1 HE1.out FM).mono ?_
      rintro e y0 ⟨rfl, hb⟩
      have MB1 := Lib.hid (MB.out.below hb)
      have PB2 := Lib.hid (PB1.out.below hb)
      have bel := below_more bel1 hb
      clear hb bel1 PB1 MB HE1
      cases e3 : msgOk m
      · have HR := Lib.hid (kept_m HM.out e3)
        go_wp2
        go_ret
        exact .mk (by rw [HR.out]; rfl) bel
      · have hfr := frm_of_ok e3
        obtain ⟨fn, hfn⟩ : ∃ fn : Nat, m.frm = (fn : Int) := ⟨m.frm.toNat, by omega⟩
        have hf4 : fn < 4 := by omega
        have mc0 : y0.cell? ⟨wr.heap.size, 0, none⟩ = some (.int .i64 (fn : Int)) := by rw [← hfn]; exact MB1.out.cell 0 rfl
        have sc := PB2.out.cell fn (shs_at q k hf4)
        have sf := PB2.out.free fn
        have mlt := MB1.out.lt
        have plt := PB2.out.lt
        have HF := Lib.hid hfn
        have hs0 := share_pos (q.take k) fn
        have hs1 := share_le (q.take k) fn
        have hs2 : (q.take k).length ≤ k := List.length_take_le _ _
        by_cases e4 : share (q.take k) fn = 3
        · have HR := Lib.hid (kept_s HM.out (by rw [hfn]; exact e4))
          have e4' : (share (q.take k) fn == 3) = true := by simpa using e4
          clear hfn hfr e4
          go_wp2
          go_ret
          exact .mk (by rw [HR.out]; rfl) bel
        · have HS1 := Lib.hid (HS.out.succ HM.out e3 (by rw [hfn]; exact e4))
          have HT := Lib.hid (shs_set HM.out hfn hf4)
          have e4' : (share (q.take k) fn == 3) = false := by simpa using e4
          clear hfn hfr e4 HS
          go_wp2
          go_roundw
          case rel => exact ⟨k + 1, by omega, by go_num, HS1, Lib.hid (by rw [← HT.out]; exact PB2.out.set (by simpa [shs] using hf4)), Lib.hid (bel.setCell (by simp only []; omega) _)⟩
          case measure => simp [intOf]; omega
    · obtain rfl : k = n := by omega
      have HR := Lib.hid (HS.out.done (by have := HNX.out; omega))
      go_wp2
      go_ret
      exact .mk (by rw [HR.out]; rfl) bel
end Go.Proofs.YtnpeojlhjbdjiaaGreatDoor

/-
  Chapter 7 of the program: a handle that has a maker, DoorOk, OpenDoor, ShutDoor.
-/
namespace Go.Proofs.YtnpeojlhjbdjiaaGreatDoor
set_option maxRecDepth 100000
open Go.RowKit

theorem maker_parts {h : Int} (hw : (Lit.int .i64 h).wf = true) : IntKind.i64.wrap (Int.tdiv h 100) = Int.tdiv h 100 ∧ IntKind.i64.wrap (Int.tmod h 100) = Int.tmod h 100 ∧ origOk (Int.tdiv h 100) (Int.tmod h 100) = decide (0 ≤ makerOf h) := by
  have hr : -9223372036854775808 ≤ h ∧ h ≤ 9223372036854775807 := by
    have m : IntKind.i64.min = -9223372036854775808 := by decide
    simpa [Lit.wf, m] using hw
  have d1 : -92233720368547759 ≤ Int.tdiv h 100 ∧ Int.tdiv h 100 ≤ 92233720368547759 := by
    rcases Int.le_total 0 h with k | k
    · rw [Int.tdiv_eq_ediv_of_nonneg k]; omega
    · obtain ⟨m, rfl⟩ : ∃ m, h = -m := ⟨-h, by omega⟩
      rw [Int.neg_tdiv, Int.tdiv_eq_ediv_of_nonneg (by omega)]; omega
  have d2 : -100 < Int.tmod h 100 ∧ Int.tmod h 100 < 100 := ⟨by have := Int.tmod_lt_of_pos (-h) (show (0 : Int) < 100 by omega); rw [Int.neg_tmod] at this; omega, Int.tmod_lt_of_pos _ (by omega)⟩
  have e1 : IntKind.i64.wrap (Int.tdiv h 100) = Int.tdiv h 100 := IntWalk.i64_in _ (by omega)
  have e2 : IntKind.i64.wrap (Int.tmod h 100) = Int.tmod h 100 := IntWalk.i64_in _ (by omega)
  have hn : 0 ≤ h → 0 ≤ Int.tmod h 100 := fun k => Int.tmod_nonneg _ k
  have hs : Int.tdiv h 100 * 100 + Int.tmod h 100 = h := by have := Int.mul_tdiv_add_tmod h 100; omega
  refine ⟨e1, e2, ?_⟩
  generalize Int.tdiv h 100 = a at *
  generalize Int.tmod h 100 = b at *
  by_cases k : origOk a b = true
  · have q := (origOk_iff _ _).1 k
    have e := makerOf_yes (h := h) (by omega) (by omega) (by omega) (by omega)
    rw [k]
    have : 0 ≤ makerOf h := by omega
    simp [this]
  · have : makerOf h = -1 := makerOf_no (fun q => k ((origOk_iff _ _).2 (by omega)))
    have k' : origOk a b = false := by simpa using k
    rw [k', this]
    rfl
theorem impl_hasmaker (h : Int) (w : World) (hw : (Lit.int .i64 h).wf = true) : Calls Tryz.prog 26 #[.int .i64 h] w (RetV (.bool (decide (0 ≤ makerOf h))) w) := by
  obtain ⟨e1, e2, hm⟩ := maker_parts hw
  have HM := Lib.hid hm
  clear hm
  go_enter Tryz.func26, Tryz.ntmps26
  go_wp2_with fail
  refine (impl_originof h _ e1 e2).mono ?_
  rintro e w1 ⟨rfl, hb⟩
  go_wp2_with fail
  refine (impl_origok _ _ _).mono ?_
  rintro e w2 ⟨rfl, hb'⟩
  go_wp2
  go_ret
  exact .mk (by rw [HM.out]; rfl) (below_more hb hb')
theorem implD_labok {us : List Value} {l : Lab} {w : World} (h : Rds w (dtLab l) us) (hf : l.parts.length ≤ 1048576) : Calls Tryz.prog 58 #[.agg us.toArray] w (RetV (.bool (labOk l)) w) := impl_labok0 _ l w (h.lab hf)
set_option maxHeartbeats 4000000 in
theorem implD_dook {A0 A1 : Option Addr} {n0 c0 n1 c1 : Nat} {x : Door} {w : World} (H1 : Hid (Rds w (dtLab x.label) [.int .i64 x.label.base, .slice A0 n0 c0])) (H2 : Hid (Rd w (.row 12 35 (x.queue.flatMap dtMs)) (.slice A1 n1 c1))) (hf : doorSz x ≤ 1048576) (HW : Hid (WfDoor x)) : Calls Tryz.prog 31 #[.agg #[.int .i64 x.label.base, .slice A0 n0 c0, .int .i64 x.handle, .slice A1 n1 c1]] w (RetV (.bool (doorOk x)) w) := by
  unfold doorSz at hf
  have S1 : x.label.parts.length ≤ 1048576 := by omega
  have S2 : mssSz x.queue ≤ 1048576 := by omega
  have HD := Lib.hid (doorOk_kept x)
  cases e0 : decide (0 ≤ makerOf x.handle)
  · have HR : Hid (doorOk x = false) := Lib.hid (by rw [HD.out, e0]; rfl)
    go_enter Tryz.func31, Tryz.ntmps31
    go_wp2_with fail
    generalize hW : w.alloc (.cells #[.int .i64 x.label.base, .slice A0 n0 c0, .int .i64 x.handle, .slice A1 n1 c1] 53) = x0
    obtain ⟨pb, hsz, bel⟩ := laid1 (ps := [.int .i64 x.label.base, .slice A0 n0 c0, .int .i64 x.handle, .slice A1 n1 c1]) hW
    have PB := Lib.hid pb
    clear hW pb hsz
    refine (impl_hasmaker x.handle _ HW.out.wf).mono ?_
    rintro e y0 ⟨rfl, hb⟩
    have PB' := Lib.hid (PB.out.below hb)
    have bel' := below_more bel hb
    clear PB bel hb
    have PB := PB'
    have bel := bel'
    clear PB' bel'
    try rw [e0]
    go_wp2
    go_ret
    exact .mk (by rw [HR.out]; rfl) bel
  cases e1 : labOk x.label
  · have HR : Hid (doorOk x = false) := Lib.hid (by rw [HD.out, e0, e1]; rfl)
    go_enter Tryz.func31, Tryz.ntmps31
    go_wp2_with fail
    generalize hW : w.alloc (.cells #[.int .i64 x.label.base, .slice A0 n0 c0, .int .i64 x.handle, .slice A1 n1 c1] 53) = x0
    obtain ⟨pb, hsz, bel⟩ := laid1 (ps := [.int .i64 x.label.base, .slice A0 n0 c0, .int .i64 x.handle, .slice A1 n1 c1]) hW
    have PB := Lib.hid pb
    clear hW pb hsz
    refine (impl_hasmaker x.handle _ HW.out.wf).mono ?_
    rintro e y0 ⟨rfl, hb⟩
    have PB' := Lib.hid (PB.out.below hb)
    have bel' := below_more bel hb
    clear PB bel hb
    have PB := PB'
    have bel := bel'
    clear PB' bel'
    try rw [e0]
    have pc0 := PB.out.cell 0 rfl
    have pc1 := PB.out.cell 1 rfl
    go_wp2_with fail
    refine (implD_labok (H1.out.below bel) S1).mono ?_
    rintro e y1 ⟨rfl, hb⟩
    have PB' := Lib.hid (PB.out.below hb)
    have bel' := below_more bel hb
    clear PB bel hb pc0 pc1
    have PB := PB'
    have bel := bel'
    clear PB' bel'
    try rw [e1]
    go_wp2
    go_ret
    exact .mk (by rw [HR.out]; rfl) bel
  cases e2 : kept x.queue
  · have HR : Hid (doorOk x = false) := Lib.hid (by rw [HD.out, e0, e1, e2]; rfl)
    go_enter Tryz.func31, Tryz.ntmps31
    go_wp2_with fail
    generalize hW : w.alloc (.cells #[.int .i64 x.label.base, .slice A0 n0 c0, .int .i64 x.handle, .slice A1 n1 c1] 53) = x0
    obtain ⟨pb, hsz, bel⟩ := laid1 (ps := [.int .i64 x.label.base, .slice A0 n0 c0, .int .i64 x.handle, .slice A1 n1 c1]) hW
    have PB := Lib.hid pb
    clear hW pb hsz
    refine (impl_hasmaker x.handle _ HW.out.wf).mono ?_
    rintro e y0 ⟨rfl, hb⟩
    have PB' := Lib.hid (PB.out.below hb)
    have bel' := below_more bel hb
    clear PB bel hb
    have PB := PB'
    have bel := bel'
    clear PB' bel'
    try rw [e0]
    have pc0 := PB.out.cell 0 rfl
    have pc1 := PB.out.cell 1 rfl
    go_wp2_with fail
    refine (implD_labok (H1.out.below bel) S1).mono ?_
    rintro e y1 ⟨rfl, hb⟩
    have PB' := Lib.hid (PB.out.below hb)
    have bel' := below_more bel hb
    clear PB bel hb pc0 pc1
    have PB := PB'
    have bel := bel'
    clear PB' bel'
    try rw [e1]
    have pc3 := PB.out.cell 3 rfl
    go_wp2_with fail
    refine (implD_shareskept (H2.out.below bel) S2).mono ?_
    rintro e y2 ⟨rfl, hb⟩
    have PB' := Lib.hid (PB.out.below hb)
    have bel' := below_more bel hb
    clear PB bel hb pc3
    have PB := PB'
    have bel := bel'
    clear PB' bel'
    try rw [e2]
    go_wp2
    go_ret
    exact .mk (by rw [HR.out]; rfl) bel
  have HR : Hid (doorOk x = true) := Lib.hid (by rw [HD.out, e0, e1, e2]; rfl)
  go_enter Tryz.func31, Tryz.ntmps31
  go_wp2_with fail
  generalize hW : w.alloc (.cells #[.int .i64 x.label.base, .slice A0 n0 c0, .int .i64 x.handle, .slice A1 n1 c1] 53) = x0
  obtain ⟨pb, hsz, bel⟩ := laid1 (ps := [.int .i64 x.label.base, .slice A0 n0 c0, .int .i64 x.handle, .slice A1 n1 c1]) hW
  have PB := Lib.hid pb
  clear hW pb hsz
  refine (impl_hasmaker x.handle _ HW.out.wf).mono ?_
  rintro e y0 ⟨rfl, hb⟩
  have PB' := Lib.hid (PB.out.below hb)
  have bel' := below_more bel hb
  clear PB bel hb
  have PB := PB'
  have bel := bel'
  clear PB' bel'
  try rw [e0]
  have pc0 := PB.out.cell 0 rfl
  have pc1 := PB.out.cell 1 rfl
  go_wp2_with fail
  refine (implD_labok (H1.out.below bel) S1).mono ?_
  rintro e y1 ⟨rfl, hb⟩
  have PB' := Lib.hid (PB.out.below hb)
  have bel' := below_more bel hb
  clear PB bel hb pc0 pc1
  have PB := PB'
  have bel := bel'
  clear PB' bel'
  try rw [e1]
  have pc3 := PB.out.cell 3 rfl
  go_wp2_with fail
  refine (implD_shareskept (H2.out.below bel) S2).mono ?_
  rintro e y2 ⟨rfl, hb⟩
  have PB' := Lib.hid (PB.out.below hb)
  have bel' := below_more bel hb
  clear PB bel hb pc3
  have PB := PB'
  have bel := bel'
  clear PB' bel'
  try rw [e2]
  go_wp2
  go_ret
  exact .mk (by rw [HR.out]; rfl) bel
theorem impl_inside (a b : Int) (A0 A1 : Option Addr) (n0 c0 n1 c1 : Nat) (w : World) : Calls Tryz.prog 30 #[.agg #[.int .i64 a, .int .i64 b, .slice A0 n0 c0, .slice A1 n1 c1]] w (RetV (.agg #[.int .i64 b, .slice A0 n0 c0, .int .i64 a, .slice A1 n1 c1]) w) := by
  go_enter Tryz.func30, Tryz.ntmps30
  go_wp2
  refine bodyPost_ret (v := .agg #[.int .i64 b, .slice A0 n0 c0, .int .i64 a, .slice A1 n1 c1]) (by simp [results, Tryz.results30, go_sem]) rfl ?_
  exact .mk rfl (by go_grown)
set_option maxHeartbeats 4000000 in
theorem implD_doorok {us : List Value} {x : Door} {w : World} (h : Rds w (dtDoor x) us) (hf : doorSz x ≤ 1048576) (hq : WfDoor x) : Calls Tryz.prog 10 #[.agg us.toArray] w (RetV (.bool (doorOk x)) w) := by
  have hfs := hf
  have HW := Lib.hid hq
  unfold dtDoor at h
  obtain ⟨us, rfl, hg1⟩ := h.num
  clear h
  obtain ⟨uf, us, rfl, hf1, hg2⟩ := hg1.split
  clear hg1
  obtain ⟨A0, n0, c0, rfl⟩ := shp_lab hf1
  have H1 := Lib.hid hf1
  clear hf1
  obtain ⟨A1, n1, c1, rfl⟩ := shp_row hg2
  have H2 := Lib.hid hg2
  clear hg2
  simp only [List.cons_append, List.nil_append]
  go_enter Tryz.func10, Tryz.ntmps10
  go_wp2_with fail
  generalize hW : w.alloc (.cells #[.int .i64 x.handle, .int .i64 x.label.base, .slice A0 n0 c0, .slice A1 n1 c1] 29) = x0
  obtain ⟨pb, hsz, bel⟩ := laid1 (ps := [.int .i64 x.handle, .int .i64 x.label.base, .slice A0 n0 c0, .slice A1 n1 c1]) hW
  have PB := Lib.hid pb
  clear hW pb hsz
  refine (impl_inside _ _ _ _ _ _ _ _ _).mono ?_
  rintro e y0 ⟨rfl, hb⟩
  have bel' := below_more bel hb
  clear bel hb
  go_wp2_with fail
  refine (implD_dook (x := x) (Lib.hid (H1.out.below bel')) (Lib.hid (rds1 (H2.out.below bel'))) hfs HW).mono ?_
  rintro e y1 ⟨rfl, hb⟩
  go_wp2
  go_ret
  exact .mk rfl (below_more bel' hb)
set_option maxHeartbeats 4000000 in
theorem impl_opened (a : Int) (w : World) : Calls Tryz.prog 27 #[.int .i64 a] w fun e w' => ∃ A n c, e = .returned (.agg #[.int .i64 4, .slice A n c, .int .i64 a, .slice none 0 0]) ∧ Own w.heap.size w' (dtLab (plainL 4)) [.int .i64 4, .slice A n c] ∧ Below w.heap.size w w' := by
  go_enter Tryz.func27, Tryz.ntmps27
  go_wp2_with fail
  generalize hW : w.alloc (.cells #[.int .i64 0, .slice none 0 0, .int .i64 0, .slice none 0 0] 53) = x0
  obtain ⟨pb, hsz, bel⟩ := laid1 (ps := [.int .i64 0, .slice none 0 0, .int .i64 0, .slice none 0 0]) hW
  have PB := Lib.hid pb
  have hlo : w.heap.size + 1 ≤ x0.heap.size := by omega
  clear hW pb
  refine (impl_plain 4 _).mono ?_
  rintro e w1 ⟨v1, rfl, own, hb⟩
  obtain ⟨us, rfl, ho⟩ := own.dt
  obtain ⟨A0, n0, c0, rfl⟩ := shp_lab ho.rd
  have HO := Lib.hid ho
  have PB1 := Lib.hid (PB.out.below hb)
  have bel1 := below_more bel hb
  have r0 := PB1.out.cell 0 rfl
  have r1 := PB1.out.cell 1 rfl
  have r2 := PB1.out.cell 2 rfl
  have r3 := PB1.out.cell 3 rfl
  have f0 := PB1.out.free 0
  have f1 := PB1.out.free 1
  have f2 := PB1.out.free 2
  have f3 := PB1.out.free 3
  clear hb own ho PB hsz bel
  go_wp2
  refine bodyPost_ret (v := .agg #[.int .i64 4, .slice A0 n0 c0, .int .i64 a, .slice none 0 0]) (by simp [results, Tryz.results27, go_sem, r0, r1, r2, r3]; rfl) rfl ?_
  exact ⟨A0, n0, c0, rfl, (HO.out.set4 (by omega) _ _ _ _).lower (by omega), (((bel1.setCell (by simp only []; omega) _).setCell (by simp only []; omega) _).setCell (by simp only []; omega) _).setCell (by simp only []; omega) _⟩
theorem impl_face (a b : Int) (A0 A1 : Option Addr) (n0 c0 n1 c1 : Nat) (w : World) : Calls Tryz.prog 28 #[.agg #[.int .i64 b, .slice A0 n0 c0, .int .i64 a, .slice A1 n1 c1]] w (RetV (.agg #[.int .i64 a, .int .i64 b, .slice A0 n0 c0, .slice A1 n1 c1]) w) := by
  go_enter Tryz.func28, Tryz.ntmps28
  go_wp2
  refine bodyPost_ret (v := .agg #[.int .i64 a, .int .i64 b, .slice A0 n0 c0, .slice A1 n1 c1]) (by simp [results, Tryz.results28, go_sem]) rfl ?_
  exact .mk rfl (by go_grown)
theorem shut_lab (a : Int) : (⟨(plainL 4).base, withGo a 1 (decide ((1 : Int) = (plainL 4).base)) (plainL 4).parts⟩ : Lab) = (withL (plainL 4) a 1).1 := by
  simp [plainL, lvOk, withL, withGo]
set_option maxHeartbeats 4000000 in
theorem impl_shut (a : Int) (A : Option Addr) (n c : Nat) (w : World) (h : Rds w (dtLab (plainL 4)) [.int .i64 4, .slice A n c]) : Calls Tryz.prog 29 #[.agg #[.int .i64 4, .slice A n c, .int .i64 a, .slice none 0 0]] w fun e w' => ∃ A n c, e = .returned (.agg #[.int .i64 4, .slice A n c, .int .i64 a, .slice none 0 0]) ∧ Own w.heap.size w' (dtLab (withL (plainL 4) a 1).1) [.int .i64 4, .slice A n c] ∧ Below w.heap.size w w' := by
  have HH := Lib.hid h
  clear h
  go_enter Tryz.func29, Tryz.ntmps29
  go_wp2_with fail
  generalize hW : (w.alloc (.cells #[.int .i64 4, .slice A n c, .int .i64 a, .slice none 0 0] 53)).alloc (.cells #[.int .i64 0, .slice none 0 0, .int .i64 0, .slice none 0 0] 53) = x0
  obtain ⟨pb, rb, hsz, bel⟩ := laid2 (ps := [.int .i64 4, .slice A n c, .int .i64 a, .slice none 0 0]) (rs := [.int .i64 0, .slice none 0 0, .int .i64 0, .slice none 0 0]) hW
  have PB := Lib.hid pb
  have RB := Lib.hid rb
  have hlo : w.heap.size + 2 ≤ x0.heap.size := by omega
  clear hW pb rb
  have HL := Lib.hid (Rds.lab (l := plainL 4) (HH.out.below bel) (by simp [plainL, lvOk]))
  refine (impl_with0 _ (plainL 4) a 1 x0 HL.out (by simp [plainL, lvOk, Rises]) (by simp [plainL, lvOk])).mono ?_
  rintro e w1 ⟨v1, rfl, own, hb⟩
  rw [shut_lab] at own
  obtain ⟨us, rfl, ho⟩ := own.dt
  obtain ⟨A0, n0, c0, rfl⟩ := shp_lab ho.rd
  have eb : (withL (plainL 4) a 1).1.base = 4 := by rw [← shut_lab]; rfl
  rw [eb] at ho
  have HO := Lib.hid ho
  have PB1 := Lib.hid (PB.out.below hb)
  have RB1 := Lib.hid (RB.out.below hb)
  have bel1 := below_more bel hb
  have PB1r0 := PB1.out.cell 0 rfl
  have PB1f0 := PB1.out.free 0
  have PB1r1 := PB1.out.cell 1 rfl
  have PB1f1 := PB1.out.free 1
  have PB1r2 := PB1.out.cell 2 rfl
  have PB1f2 := PB1.out.free 2
  have PB1r3 := PB1.out.cell 3 rfl
  have PB1f3 := PB1.out.free 3
  have RB1r0 := RB1.out.cell 0 rfl
  have RB1f0 := RB1.out.free 0
  have RB1r1 := RB1.out.cell 1 rfl
  have RB1f1 := RB1.out.free 1
  have RB1r2 := RB1.out.cell 2 rfl
  have RB1f2 := RB1.out.free 2
  have RB1r3 := RB1.out.cell 3 rfl
  have RB1f3 := RB1.out.free 3
  have plt := PB1.out.lt
  have rlt := RB1.out.lt
  clear hb own ho PB RB hsz bel eb
  rw [show (withL (plainL 4) a 1).1.base = 4 by rw [← shut_lab]; rfl]
  go_wp2
  refine bodyPost_ret (v := .agg #[.int .i64 4, .slice A0 n0 c0, .int .i64 a, .slice none 0 0]) (by simp [results, Tryz.results29, go_sem, RB1r0, RB1r1, RB1r2, RB1r3]) rfl ?_
  exact ⟨A0, n0, c0, rfl, ((((HO.out.past (by omega)).past (by omega)).set4 (by omega) _ _ _ _)).lower (by omega), (((((bel1.setCell (by simp only []; omega) _).setCell (by simp only []; omega) _).setCell (by simp only []; omega) _).setCell (by simp only []; omega) _).setCell (by simp only []; omega) _).setCell (by simp only []; omega) _⟩
set_option maxHeartbeats 4000000 in
theorem implD_opendoor (a : Int) (iw : (Lit.int .i64 a).wf = true) (w : World) : Calls Tryz.prog 8 #[.int .i64 a] w (RetD (dtDoor (openD a)) w) := by
  have hz0 : ∀ x : World, Below x.heap.size x x := fun x => .refl _ _
  by_cases h : makerOf a < 0
  · have HR := Lib.hid (openD_no h)
    have HM := fun x => Lib.hid (by have := impl_hasmaker a x iw; rw [decide_eq_false (by omega)] at this; exact this)
    clear h
    go_enter Tryz.func8, Tryz.ntmps8
    go_wp2_with fail
    generalize hW : w.alloc (.cells #[.int .i64 0, .int .i64 0, .slice none 0 0, .slice none 0 0] 29) = x0
    obtain ⟨pb, hsz, bel⟩ := laid1 (ps := [.int .i64 0, .int .i64 0, .slice none 0 0, .slice none 0 0]) hW
    have PB := Lib.hid pb
    clear hW pb
    refine (HM _).out.mono ?_
    rintro e w1 ⟨rfl, hb⟩
    have PB1 := Lib.hid (PB.out.below hb)
    have bel1 := below_more bel hb
    have PB1r0 := PB1.out.cell 0 rfl
    have PB1f0 := PB1.out.free 0
    have PB1r1 := PB1.out.cell 1 rfl
    have PB1f1 := PB1.out.free 1
    have PB1r2 := PB1.out.cell 2 rfl
    have PB1f2 := PB1.out.free 2
    have PB1r3 := PB1.out.cell 3 rfl
    have PB1f3 := PB1.out.free 3
    have plt := PB1.out.lt
    clear hb PB hsz bel
    go_wp2
    refine bodyPost_ret (v := .agg #[.int .i64 0, .int .i64 0, .slice none 0 0, .slice none 0 0]) (by simp [results, Tryz.results8, go_sem, PB1r0, PB1r1, PB1r2, PB1r3]) rfl ?_
    rw [HR.out]
    exact ⟨_, rfl, own_noDoor _ _, (((bel1.setCell (by simp only []; omega) _).setCell (by simp only []; omega) _).setCell (by simp only []; omega) _).setCell (by simp only []; omega) _⟩
  · have HR := Lib.hid (openD_yes h)
    have HM := fun x => Lib.hid (by have := impl_hasmaker a x iw; rw [decide_eq_true (by omega)] at this; exact this)
    clear h
    go_enter Tryz.func8, Tryz.ntmps8
    go_wp2_with fail
    generalize hW : w.alloc (.cells #[.int .i64 0, .int .i64 0, .slice none 0 0, .slice none 0 0] 29) = x0
    obtain ⟨pb, hsz, bel⟩ := laid1 (ps := [.int .i64 0, .int .i64 0, .slice none 0 0, .slice none 0 0]) hW
    have PB := Lib.hid pb
    have HS0 : Hid (w.heap.size + 1 ≤ x0.heap.size) := Lib.hid (by omega)
    clear hW pb hsz
    refine (HM _).out.mono ?_
    rintro e w1 ⟨rfl, hb⟩
    have PB1 := Lib.hid (PB.out.below hb)
    have HS1 : Hid (w.heap.size + 1 ≤ w1.heap.size) := Lib.hid (by have := HS0.out; have := hb.size; omega)
    have bel' := below_more bel hb
    clear hb PB bel HS0
    have bel := bel'
    clear bel'
    go_wp2_with fail
    refine (impl_opened a _).mono ?_
    rintro e w2 ⟨A0, n0, c0, rfl, ho, hb⟩
    have PB2 := Lib.hid (PB1.out.below hb)
    have HS2 : Hid (w.heap.size + 1 ≤ w2.heap.size) := Lib.hid (by have := HS1.out; have := hb.size; omega)
    have bel' := below_more bel hb
    have HO := Lib.hid (ho.lower (base := w1.heap.size) (base' := w.heap.size + 1) (by have := HS1.out; omega))
    clear hb PB1 bel ho
    have bel := bel'
    clear bel'
    go_wp2_with fail
    refine (impl_face a 4 A0 none n0 c0 0 0 _).mono ?_
    rintro e w3 ⟨rfl, hb⟩
    have PB3 := Lib.hid (PB2.out.below hb)
    have HO3 := Lib.hid (own_door (a := a) (HO.out.below hb))
    have bel3 := below_more bel hb
    have PB3r0 := PB3.out.cell 0 rfl
    have PB3f0 := PB3.out.free 0
    have PB3r1 := PB3.out.cell 1 rfl
    have PB3f1 := PB3.out.free 1
    have PB3r2 := PB3.out.cell 2 rfl
    have PB3f2 := PB3.out.free 2
    have PB3r3 := PB3.out.cell 3 rfl
    have PB3f3 := PB3.out.free 3
    have plt := PB3.out.lt
    clear hb PB2 bel HO
    go_wp2
    refine bodyPost_ret (v := .agg #[.int .i64 a, .int .i64 4, .slice A0 n0 c0, .slice none 0 0]) (by simp [results, Tryz.results8, go_sem, PB3r0, PB3r1, PB3r2, PB3r3]) rfl ?_
    rw [HR.out]
    exact ⟨_, rfl, (HO3.out.set4 (by omega) _ _ _ _).lower (by omega), (((bel3.setCell (by simp only []; omega) _).setCell (by simp only []; omega) _).setCell (by simp only []; omega) _).setCell (by simp only []; omega) _⟩
set_option maxHeartbeats 4000000 in
theorem implD_shutdoor (a : Int) (iw : (Lit.int .i64 a).wf = true) (w : World) : Calls Tryz.prog 9 #[.int .i64 a] w (RetD (dtDoor (shutD a)) w) := by
  have hz0 : ∀ x : World, Below x.heap.size x x := fun x => .refl _ _
  by_cases h : makerOf a < 0
  · have HR := Lib.hid (shutD_no h)
    have HM := fun x => Lib.hid (by have := impl_hasmaker a x iw; rw [decide_eq_false (by omega)] at this; exact this)
    clear h
    go_enter Tryz.func9, Tryz.ntmps9
    go_wp2_with fail
    generalize hW : w.alloc (.cells #[.int .i64 0, .int .i64 0, .slice none 0 0, .slice none 0 0] 29) = x0
    obtain ⟨pb, hsz, bel⟩ := laid1 (ps := [.int .i64 0, .int .i64 0, .slice none 0 0, .slice none 0 0]) hW
    have PB := Lib.hid pb
    clear hW pb
    refine (HM _).out.mono ?_
    rintro e w1 ⟨rfl, hb⟩
    have PB1 := Lib.hid (PB.out.below hb)
    have bel1 := below_more bel hb
    have PB1r0 := PB1.out.cell 0 rfl
    have PB1f0 := PB1.out.free 0
    have PB1r1 := PB1.out.cell 1 rfl
    have PB1f1 := PB1.out.free 1
    have PB1r2 := PB1.out.cell 2 rfl
    have PB1f2 := PB1.out.free 2
    have PB1r3 := PB1.out.cell 3 rfl
    have PB1f3 := PB1.out.free 3
    have plt := PB1.out.lt
    clear hb PB hsz bel
    go_wp2
    refine bodyPost_ret (v := .agg #[.int .i64 0, .int .i64 0, .slice none 0 0, .slice none 0 0]) (by simp [results, Tryz.results9, go_sem, PB1r0, PB1r1, PB1r2, PB1r3]) rfl ?_
    rw [HR.out]
    exact ⟨_, rfl, own_noDoor _ _, (((bel1.setCell (by simp only []; omega) _).setCell (by simp only []; omega) _).setCell (by simp only []; omega) _).setCell (by simp only []; omega) _⟩
  · have HR := Lib.hid (shutD_yes h)
    have HM := fun x => Lib.hid (by have := impl_hasmaker a x iw; rw [decide_eq_true (by omega)] at this; exact this)
    clear h
    go_enter Tryz.func9, Tryz.ntmps9
    go_wp2_with fail
    generalize hW : w.alloc (.cells #[.int .i64 0, .int .i64 0, .slice none 0 0, .slice none 0 0] 29) = x0
    obtain ⟨pb, hsz, bel⟩ := laid1 (ps := [.int .i64 0, .int .i64 0, .slice none 0 0, .slice none 0 0]) hW
    have PB := Lib.hid pb
    have HS0 : Hid (w.heap.size + 1 ≤ x0.heap.size) := Lib.hid (by omega)
    clear hW pb hsz
    refine (HM _).out.mono ?_
    rintro e w1 ⟨rfl, hb⟩
    have PB1 := Lib.hid (PB.out.below hb)
    have HS1 : Hid (w.heap.size + 1 ≤ w1.heap.size) := Lib.hid (by have := HS0.out; have := hb.size; omega)
    have bel' := below_more bel hb
    clear hb PB bel HS0
    have bel := bel'
    clear bel'
    go_wp2_with fail
    refine (impl_opened a _).mono ?_
    rintro e w2 ⟨A0, n0, c0, rfl, ho, hb⟩
    have PB2 := Lib.hid (PB1.out.below hb)
    have HS2 : Hid (w.heap.size + 1 ≤ w2.heap.size) := Lib.hid (by have := HS1.out; have := hb.size; omega)
    have bel' := below_more bel hb
    have HA := Lib.hid ho.rd
    clear hb PB1 bel ho
    have bel := bel'
    clear bel'
    go_wp2_with fail
    refine (impl_shut a A0 n0 c0 _ HA.out).mono ?_
    clear HA
    rintro e w2b ⟨A0, n0, c0, rfl, ho, hb⟩
    have PB2b := Lib.hid (PB2.out.below hb)
    have bel' := below_more bel hb
    have HO := Lib.hid (ho.lower (base := w2.heap.size) (base' := w.heap.size + 1) (by have := HS2.out; omega))
    clear hb PB2 bel ho
    have bel := bel'
    have PB2 := PB2b
    clear bel' PB2b
    go_wp2_with fail
    refine (impl_face a 4 A0 none n0 c0 0 0 _).mono ?_
    rintro e w3 ⟨rfl, hb⟩
    have PB3 := Lib.hid (PB2.out.below hb)
    have HO3 := Lib.hid (own_door (a := a) (HO.out.below hb))
    have bel3 := below_more bel hb
    have PB3r0 := PB3.out.cell 0 rfl
    have PB3f0 := PB3.out.free 0
    have PB3r1 := PB3.out.cell 1 rfl
    have PB3f1 := PB3.out.free 1
    have PB3r2 := PB3.out.cell 2 rfl
    have PB3f2 := PB3.out.free 2
    have PB3r3 := PB3.out.cell 3 rfl
    have PB3f3 := PB3.out.free 3
    have plt := PB3.out.lt
    clear hb PB2 bel HO
    go_wp2
    refine bodyPost_ret (v := .agg #[.int .i64 a, .int .i64 4, .slice A0 n0 c0, .slice none 0 0]) (by simp [results, Tryz.results9, go_sem, PB3r0, PB3r1, PB3r2, PB3r3]) rfl ?_
    rw [HR.out]
    exact ⟨_, rfl, (HO3.out.set4 (by omega) _ _ _ _).lower (by omega), (((bel3.setCell (by simp only []; omega) _).setCell (by simp only []; omega) _).setCell (by simp only []; omega) _).setCell (by simp only []; omega) _⟩
end Go.Proofs.YtnpeojlhjbdjiaaGreatDoor
