/-
  Chapter 7 of the program: a handle that has a maker, DoorOk, OpenDoor, ShutDoor.
-/
import Derived.Test.YtnpeojlhjbdjiaaImplDoor0
import Derived.Test.YtnpeojlhjbdjiaaImplHandle
import Derived.Test.YtnpeojlhjbdjiaaSpecOpen
import Derived.Test.YtnpeojlhjbdjiaaImplLab3
import Derived.Deep.RegionHeld3
import Derived.WalkSpells
namespace Go.Proofs.Ytnpeojlhjbdjiaa
set_option maxRecDepth 100000
open Go.RowKit

theorem maker_parts {h : Int} (hw : (Lit.int .i64 h).wf = true) : IntKind.i64.wrap (Int.tdiv h 100) = Int.tdiv h 100 ∧ IntKind.i64.wrap (Int.tmod h 100) = Int.tmod h 100 ∧ origOk (Int.tdiv h 100) (Int.tmod h 100) = decide (0 ≤ makerOf h) := by
  have hr : -9223372036854775808 ≤ h ∧ h ≤ 9223372036854775807 := by
    have m : IntKind.i64.min = -9223372036854775808 := by decide
    simpa [Lit.wf, m] using hw
  have d1 : -92233720368547759 ≤ Int.tdiv h 100 ∧ Int.tdiv h 100 ≤ 92233720368547759 := by
    rcases Int.le_total 0 h with k | k
    · rw [Int.tdiv_eq_ediv_of_nonneg k]; omega
    · obtain ⟨m, rfl⟩ : ∃ m, h = -m := ⟨-h, by omega⟩
      rw [Int.neg_tdiv, Int.tdiv_eq_ediv_of_nonneg (by omega)]; omega
  have d2 : -100 < Int.tmod h 100 ∧ Int.tmod h 100 < 100 := ⟨by have := Int.tmod_lt_of_pos (-h) (show (0 : Int) < 100 by omega); rw [Int.neg_tmod] at this; omega, Int.tmod_lt_of_pos _ (by omega)⟩
  have e1 : IntKind.i64.wrap (Int.tdiv h 100) = Int.tdiv h 100 := IntWalk.i64_in _ (by omega)
  have e2 : IntKind.i64.wrap (Int.tmod h 100) = Int.tmod h 100 := IntWalk.i64_in _ (by omega)
  have hn : 0 ≤ h → 0 ≤ Int.tmod h 100 := fun k => Int.tmod_nonneg _ k
  have hs : Int.tdiv h 100 * 100 + Int.tmod h 100 = h := by have := Int.mul_tdiv_add_tmod h 100; omega
  refine ⟨e1, e2, ?_⟩
  generalize Int.tdiv h 100 = a at *
  generalize Int.tmod h 100 = b at *
  by_cases k : origOk a b = true
  · have q := (origOk_iff _ _).1 k
    have e := makerOf_yes (h := h) (by omega) (by omega) (by omega) (by omega)
    rw [k]
    have : 0 ≤ makerOf h := by omega
    simp [this]
  · have : makerOf h = -1 := makerOf_no (fun q => k ((origOk_iff _ _).2 (by omega)))
    have k' : origOk a b = false := by simpa using k
    rw [k', this]
    rfl
theorem impl_hasmaker (h : Int) (w : World) (hw : (Lit.int .i64 h).wf = true) : Calls Try.prog 42 #[.int .i64 h] w (RetV (.bool (decide (0 ≤ makerOf h))) w) := by
  obtain ⟨e1, e2, hm⟩ := maker_parts hw
  have HM := Lib.hid hm
  clear hm
  go_enter Try.func42, Try.ntmps42
  go_wp2_with fail
  refine (impl_originof h _ e1 e2).mono ?_
  rintro e w1 ⟨rfl, hb⟩
  go_wp2_with fail
  refine (impl_origok _ _ _).mono ?_
  rintro e w2 ⟨rfl, hb'⟩
  go_wp2
  go_ret
  exact .mk (by rw [HM.out]; rfl) (below_more hb hb')
theorem implD_labok {us : List Value} {l : Lab} {w : World} (h : Rds w (dtLab l) us) (hf : l.parts.length ≤ 1048576) : Calls Try.prog 58 #[.agg us.toArray] w (RetV (.bool (labOk l)) w) := impl_labok0 _ l w (h.lab hf)
set_option maxHeartbeats 4000000 in
theorem implD_dook {A0 A1 : Option Addr} {n0 c0 n1 c1 : Nat} {x : Door} {w : World} (H1 : Hid (Rds w (dtLab x.label) [.int .i64 x.label.base, .slice A0 n0 c0])) (H2 : Hid (Rd w (.row 12 37 (x.queue.flatMap dtMs)) (.slice A1 n1 c1))) (hf : doorSz x ≤ 1048576) (HW : Hid (WfDoor x)) : Calls Try.prog 39 #[.agg #[.int .i64 x.label.base, .slice A0 n0 c0, .int .i64 x.handle, .slice A1 n1 c1]] w (RetV (.bool (doorOk x)) w) := by
  unfold doorSz at hf
  have S1 : x.label.parts.length ≤ 1048576 := by omega
  have S2 : mssSz x.queue ≤ 1048576 := by omega
  have HD := Lib.hid (doorOk_kept x)
  cases e0 : decide (0 ≤ makerOf x.handle)
  · have HR : Hid (doorOk x = false) := Lib.hid (by rw [HD.out, e0]; rfl)
    go_enter Try.func39, Try.ntmps39
    go_wp2_with fail
    generalize hW : w.alloc (.cells #[.int .i64 x.label.base, .slice A0 n0 c0, .int .i64 x.handle, .slice A1 n1 c1] 69) = x0
    obtain ⟨pb, hsz, bel⟩ := laid1 (ps := [.int .i64 x.label.base, .slice A0 n0 c0, .int .i64 x.handle, .slice A1 n1 c1]) hW
    have PB := Lib.hid pb
    clear hW pb hsz
    refine (impl_hasmaker x.handle _ HW.out.wf).mono ?_
    rintro e y0 ⟨rfl, hb⟩
    have PB' := Lib.hid (PB.out.below hb)
    have bel' := below_more bel hb
    clear PB bel hb
    have PB := PB'
    have bel := bel'
    clear PB' bel'
    try rw [e0]
    go_wp2
    go_ret
    exact .mk (by rw [HR.out]; rfl) bel
  cases e1 : labOk x.label
  · have HR : Hid (doorOk x = false) := Lib.hid (by rw [HD.out, e0, e1]; rfl)
    go_enter Try.func39, Try.ntmps39
    go_wp2_with fail
    generalize hW : w.alloc (.cells #[.int .i64 x.label.base, .slice A0 n0 c0, .int .i64 x.handle, .slice A1 n1 c1] 69) = x0
    obtain ⟨pb, hsz, bel⟩ := laid1 (ps := [.int .i64 x.label.base, .slice A0 n0 c0, .int .i64 x.handle, .slice A1 n1 c1]) hW
    have PB := Lib.hid pb
    clear hW pb hsz
    refine (impl_hasmaker x.handle _ HW.out.wf).mono ?_
    rintro e y0 ⟨rfl, hb⟩
    have PB' := Lib.hid (PB.out.below hb)
    have bel' := below_more bel hb
    clear PB bel hb
    have PB := PB'
    have bel := bel'
    clear PB' bel'
    try rw [e0]
    have pc0 := PB.out.cell 0 rfl
    have pc1 := PB.out.cell 1 rfl
    go_wp2_with fail
    refine (implD_labok (H1.out.below bel) S1).mono ?_
    rintro e y1 ⟨rfl, hb⟩
    have PB' := Lib.hid (PB.out.below hb)
    have bel' := below_more bel hb
    clear PB bel hb pc0 pc1
    have PB := PB'
    have bel := bel'
    clear PB' bel'
    try rw [e1]
    go_wp2
    go_ret
    exact .mk (by rw [HR.out]; rfl) bel
  cases e2 : kept x.queue
  · have HR : Hid (doorOk x = false) := Lib.hid (by rw [HD.out, e0, e1, e2]; rfl)
    go_enter Try.func39, Try.ntmps39
    go_wp2_with fail
    generalize hW : w.alloc (.cells #[.int .i64 x.label.base, .slice A0 n0 c0, .int .i64 x.handle, .slice A1 n1 c1] 69) = x0
    obtain ⟨pb, hsz, bel⟩ := laid1 (ps := [.int .i64 x.label.base, .slice A0 n0 c0, .int .i64 x.handle, .slice A1 n1 c1]) hW
    have PB := Lib.hid pb
    clear hW pb hsz
    refine (impl_hasmaker x.handle _ HW.out.wf).mono ?_
    rintro e y0 ⟨rfl, hb⟩
    have PB' := Lib.hid (PB.out.below hb)
    have bel' := below_more bel hb
    clear PB bel hb
    have PB := PB'
    have bel := bel'
    clear PB' bel'
    try rw [e0]
    have pc0 := PB.out.cell 0 rfl
    have pc1 := PB.out.cell 1 rfl
    go_wp2_with fail
    refine (implD_labok (H1.out.below bel) S1).mono ?_
    rintro e y1 ⟨rfl, hb⟩
    have PB' := Lib.hid (PB.out.below hb)
    have bel' := below_more bel hb
    clear PB bel hb pc0 pc1
    have PB := PB'
    have bel := bel'
    clear PB' bel'
    try rw [e1]
    have pc3 := PB.out.cell 3 rfl
    go_wp2_with fail
    refine (implD_shareskept (H2.out.below bel) S2).mono ?_
    rintro e y2 ⟨rfl, hb⟩
    have PB' := Lib.hid (PB.out.below hb)
    have bel' := below_more bel hb
    clear PB bel hb pc3
    have PB := PB'
    have bel := bel'
    clear PB' bel'
    try rw [e2]
    go_wp2
    go_ret
    exact .mk (by rw [HR.out]; rfl) bel
  have HR : Hid (doorOk x = true) := Lib.hid (by rw [HD.out, e0, e1, e2]; rfl)
  go_enter Try.func39, Try.ntmps39
  go_wp2_with fail
  generalize hW : w.alloc (.cells #[.int .i64 x.label.base, .slice A0 n0 c0, .int .i64 x.handle, .slice A1 n1 c1] 69) = x0
  obtain ⟨pb, hsz, bel⟩ := laid1 (ps := [.int .i64 x.label.base, .slice A0 n0 c0, .int .i64 x.handle, .slice A1 n1 c1]) hW
  have PB := Lib.hid pb
  clear hW pb hsz
  refine (impl_hasmaker x.handle _ HW.out.wf).mono ?_
  rintro e y0 ⟨rfl, hb⟩
  have PB' := Lib.hid (PB.out.below hb)
  have bel' := below_more bel hb
  clear PB bel hb
  have PB := PB'
  have bel := bel'
  clear PB' bel'
  try rw [e0]
  have pc0 := PB.out.cell 0 rfl
  have pc1 := PB.out.cell 1 rfl
  go_wp2_with fail
  refine (implD_labok (H1.out.below bel) S1).mono ?_
  rintro e y1 ⟨rfl, hb⟩
  have PB' := Lib.hid (PB.out.below hb)
  have bel' := below_more bel hb
  clear PB bel hb pc0 pc1
  have PB := PB'
  have bel := bel'
  clear PB' bel'
  try rw [e1]
  have pc3 := PB.out.cell 3 rfl
  go_wp2_with fail
  refine (implD_shareskept (H2.out.below bel) S2).mono ?_
  rintro e y2 ⟨rfl, hb⟩
  have PB' := Lib.hid (PB.out.below hb)
  have bel' := below_more bel hb
  clear PB bel hb pc3
  have PB := PB'
  have bel := bel'
  clear PB' bel'
  try rw [e2]
  go_wp2
  go_ret
  exact .mk (by rw [HR.out]; rfl) bel
theorem impl_inside (a b : Int) (A0 A1 : Option Addr) (n0 c0 n1 c1 : Nat) (w : World) : Calls Try.prog 38 #[.agg #[.int .i64 a, .int .i64 b, .slice A0 n0 c0, .slice A1 n1 c1]] w (RetV (.agg #[.int .i64 b, .slice A0 n0 c0, .int .i64 a, .slice A1 n1 c1]) w) := by
  go_enter Try.func38, Try.ntmps38
  go_wp2
  refine bodyPost_ret (v := .agg #[.int .i64 b, .slice A0 n0 c0, .int .i64 a, .slice A1 n1 c1]) (by simp [results, Try.results38, go_sem]) rfl ?_
  exact .mk rfl (by go_grown)
set_option maxHeartbeats 4000000 in
theorem implD_doorok {us : List Value} {x : Door} {w : World} (h : Rds w (dtDoor x) us) (hf : doorSz x ≤ 1048576) (hq : WfDoor x) : Calls Try.prog 15 #[.agg us.toArray] w (RetV (.bool (doorOk x)) w) := by
  have hfs := hf
  have HW := Lib.hid hq
  unfold dtDoor at h
  obtain ⟨us, rfl, hg1⟩ := h.num
  clear h
  obtain ⟨uf, us, rfl, hf1, hg2⟩ := hg1.split
  clear hg1
  obtain ⟨A0, n0, c0, rfl⟩ := shp_lab hf1
  have H1 := Lib.hid hf1
  clear hf1
  obtain ⟨A1, n1, c1, rfl⟩ := shp_row hg2
  have H2 := Lib.hid hg2
  clear hg2
  simp only [List.cons_append, List.nil_append]
  go_enter Try.func15, Try.ntmps15
  go_wp2_with fail
  generalize hW : w.alloc (.cells #[.int .i64 x.handle, .int .i64 x.label.base, .slice A0 n0 c0, .slice A1 n1 c1] 48) = x0
  obtain ⟨pb, hsz, bel⟩ := laid1 (ps := [.int .i64 x.handle, .int .i64 x.label.base, .slice A0 n0 c0, .slice A1 n1 c1]) hW
  have PB := Lib.hid pb
  clear hW pb hsz
  refine (impl_inside _ _ _ _ _ _ _ _ _).mono ?_
  rintro e y0 ⟨rfl, hb⟩
  have bel' := below_more bel hb
  clear bel hb
  go_wp2_with fail
  refine (implD_dook (x := x) (Lib.hid (H1.out.below bel')) (Lib.hid (rds1 (H2.out.below bel'))) hfs HW).mono ?_
  rintro e y1 ⟨rfl, hb⟩
  go_wp2
  go_ret
  exact .mk rfl (below_more bel' hb)
set_option maxHeartbeats 4000000 in
theorem impl_opened (a : Int) (w : World) : Calls Try.prog 43 #[.int .i64 a] w fun e w' => ∃ A n c, e = .returned (.agg #[.int .i64 4, .slice A n c, .int .i64 a, .slice none 0 0]) ∧ Own w.heap.size w' (dtLab (plainL 4)) [.int .i64 4, .slice A n c] ∧ Below w.heap.size w w' := by
  go_enter Try.func43, Try.ntmps43
  go_wp2_with fail
  generalize hW : w.alloc (.cells #[.int .i64 0, .slice none 0 0, .int .i64 0, .slice none 0 0] 69) = x0
  obtain ⟨pb, hsz, bel⟩ := laid1 (ps := [.int .i64 0, .slice none 0 0, .int .i64 0, .slice none 0 0]) hW
  have PB := Lib.hid pb
  have hlo : w.heap.size + 1 ≤ x0.heap.size := by omega
  clear hW pb
  refine (impl_plain 4 _).mono ?_
  rintro e w1 ⟨v1, rfl, own, hb⟩
  obtain ⟨us, rfl, ho⟩ := own.dt
  obtain ⟨A0, n0, c0, rfl⟩ := shp_lab ho.rd
  have HO := Lib.hid ho
  have PB1 := Lib.hid (PB.out.below hb)
  have bel1 := below_more bel hb
  have r0 := PB1.out.cell 0 rfl
  have r1 := PB1.out.cell 1 rfl
  have r2 := PB1.out.cell 2 rfl
  have r3 := PB1.out.cell 3 rfl
  have f0 := PB1.out.free 0
  have f1 := PB1.out.free 1
  have f2 := PB1.out.free 2
  have f3 := PB1.out.free 3
  clear hb own ho PB hsz bel
  go_wp2
  refine bodyPost_ret (v := .agg #[.int .i64 4, .slice A0 n0 c0, .int .i64 a, .slice none 0 0]) (by simp [results, Try.results43, go_sem, r0, r1, r2, r3]; rfl) rfl ?_
  exact ⟨A0, n0, c0, rfl, (HO.out.set4 (by omega) _ _ _ _).lower (by omega), (((bel1.setCell (by simp only []; omega) _).setCell (by simp only []; omega) _).setCell (by simp only []; omega) _).setCell (by simp only []; omega) _⟩
theorem impl_face (a b : Int) (A0 A1 : Option Addr) (n0 c0 n1 c1 : Nat) (w : World) : Calls Try.prog 44 #[.agg #[.int .i64 b, .slice A0 n0 c0, .int .i64 a, .slice A1 n1 c1]] w (RetV (.agg #[.int .i64 a, .int .i64 b, .slice A0 n0 c0, .slice A1 n1 c1]) w) := by
  go_enter Try.func44, Try.ntmps44
  go_wp2
  refine bodyPost_ret (v := .agg #[.int .i64 a, .int .i64 b, .slice A0 n0 c0, .slice A1 n1 c1]) (by simp [results, Try.results44, go_sem]) rfl ?_
  exact .mk rfl (by go_grown)
theorem shut_lab (a : Int) : (⟨(plainL 4).base, withGo a 1 (decide ((1 : Int) = (plainL 4).base)) (plainL 4).parts⟩ : Lab) = (withL (plainL 4) a 1).1 := by
  simp [plainL, lvOk, withL, withGo]
set_option maxHeartbeats 4000000 in
theorem impl_shut (a : Int) (A : Option Addr) (n c : Nat) (w : World) (h : Rds w (dtLab (plainL 4)) [.int .i64 4, .slice A n c]) : Calls Try.prog 50 #[.agg #[.int .i64 4, .slice A n c, .int .i64 a, .slice none 0 0]] w fun e w' => ∃ A n c, e = .returned (.agg #[.int .i64 4, .slice A n c, .int .i64 a, .slice none 0 0]) ∧ Own w.heap.size w' (dtLab (withL (plainL 4) a 1).1) [.int .i64 4, .slice A n c] ∧ Below w.heap.size w w' := by
  have HH := Lib.hid h
  clear h
  go_enter Try.func50, Try.ntmps50
  go_wp2_with fail
  generalize hW : (w.alloc (.cells #[.int .i64 4, .slice A n c, .int .i64 a, .slice none 0 0] 69)).alloc (.cells #[.int .i64 0, .slice none 0 0, .int .i64 0, .slice none 0 0] 69) = x0
  obtain ⟨pb, rb, hsz, bel⟩ := laid2 (ps := [.int .i64 4, .slice A n c, .int .i64 a, .slice none 0 0]) (rs := [.int .i64 0, .slice none 0 0, .int .i64 0, .slice none 0 0]) hW
  have PB := Lib.hid pb
  have RB := Lib.hid rb
  have hlo : w.heap.size + 2 ≤ x0.heap.size := by omega
  clear hW pb rb
  have HL := Lib.hid (Rds.lab (l := plainL 4) (HH.out.below bel) (by simp [plainL, lvOk]))
  refine (impl_with0 _ (plainL 4) a 1 x0 HL.out (by simp [plainL, lvOk, Rises]) (by simp [plainL, lvOk])).mono ?_
  rintro e w1 ⟨v1, rfl, own, hb⟩
  rw [shut_lab] at own
  obtain ⟨us, rfl, ho⟩ := own.dt
  obtain ⟨A0, n0, c0, rfl⟩ := shp_lab ho.rd
  have eb : (withL (plainL 4) a 1).1.base = 4 := by rw [← shut_lab]; rfl
  rw [eb] at ho
  have HO := Lib.hid ho
  have PB1 := Lib.hid (PB.out.below hb)
  have RB1 := Lib.hid (RB.out.below hb)
  have bel1 := below_more bel hb
  have PB1r0 := PB1.out.cell 0 rfl
  have PB1f0 := PB1.out.free 0
  have PB1r1 := PB1.out.cell 1 rfl
  have PB1f1 := PB1.out.free 1
  have PB1r2 := PB1.out.cell 2 rfl
  have PB1f2 := PB1.out.free 2
  have PB1r3 := PB1.out.cell 3 rfl
  have PB1f3 := PB1.out.free 3
  have RB1r0 := RB1.out.cell 0 rfl
  have RB1f0 := RB1.out.free 0
  have RB1r1 := RB1.out.cell 1 rfl
  have RB1f1 := RB1.out.free 1
  have RB1r2 := RB1.out.cell 2 rfl
  have RB1f2 := RB1.out.free 2
  have RB1r3 := RB1.out.cell 3 rfl
  have RB1f3 := RB1.out.free 3
  have plt := PB1.out.lt
  have rlt := RB1.out.lt
  clear hb own ho PB RB hsz bel eb
  rw [show (withL (plainL 4) a 1).1.base = 4 by rw [← shut_lab]; rfl]
  go_wp2
  refine bodyPost_ret (v := .agg #[.int .i64 4, .slice A0 n0 c0, .int .i64 a, .slice none 0 0]) (by simp [results, Try.results50, go_sem, RB1r0, RB1r1, RB1r2, RB1r3]) rfl ?_
  exact ⟨A0, n0, c0, rfl, ((((HO.out.past (by omega)).past (by omega)).set4 (by omega) _ _ _ _)).lower (by omega), (((((bel1.setCell (by simp only []; omega) _).setCell (by simp only []; omega) _).setCell (by simp only []; omega) _).setCell (by simp only []; omega) _).setCell (by simp only []; omega) _).setCell (by simp only []; omega) _⟩
set_option maxHeartbeats 4000000 in
theorem implD_opendoor (a : Int) (iw : (Lit.int .i64 a).wf = true) (w : World) : Calls Try.prog 18 #[.int .i64 a] w (RetD (dtDoor (openD a)) w) := by
  have hz0 : ∀ x : World, Below x.heap.size x x := fun x => .refl _ _
  by_cases h : makerOf a < 0
  · have HR := Lib.hid (openD_no h)
    have HM := fun x => Lib.hid (by have := impl_hasmaker a x iw; rw [decide_eq_false (by omega)] at this; exact this)
    clear h
    go_enter Try.func18, Try.ntmps18
    go_wp2_with fail
    generalize hW : w.alloc (.cells #[.int .i64 0, .int .i64 0, .slice none 0 0, .slice none 0 0] 48) = x0
    obtain ⟨pb, hsz, bel⟩ := laid1 (ps := [.int .i64 0, .int .i64 0, .slice none 0 0, .slice none 0 0]) hW
    have PB := Lib.hid pb
    clear hW pb
    refine (HM _).out.mono ?_
    rintro e w1 ⟨rfl, hb⟩
    have PB1 := Lib.hid (PB.out.below hb)
    have bel1 := below_more bel hb
    have PB1r0 := PB1.out.cell 0 rfl
    have PB1f0 := PB1.out.free 0
    have PB1r1 := PB1.out.cell 1 rfl
    have PB1f1 := PB1.out.free 1
    have PB1r2 := PB1.out.cell 2 rfl
    have PB1f2 := PB1.out.free 2
    have PB1r3 := PB1.out.cell 3 rfl
    have PB1f3 := PB1.out.free 3
    have plt := PB1.out.lt
    clear hb PB hsz bel
    go_wp2
    refine bodyPost_ret (v := .agg #[.int .i64 0, .int .i64 0, .slice none 0 0, .slice none 0 0]) (by simp [results, Try.results18, go_sem, PB1r0, PB1r1, PB1r2, PB1r3]) rfl ?_
    rw [HR.out]
    exact ⟨_, rfl, own_noDoor _ _, (((bel1.setCell (by simp only []; omega) _).setCell (by simp only []; omega) _).setCell (by simp only []; omega) _).setCell (by simp only []; omega) _⟩
  · have HR := Lib.hid (openD_yes h)
    have HM := fun x => Lib.hid (by have := impl_hasmaker a x iw; rw [decide_eq_true (by omega)] at this; exact this)
    clear h
    go_enter Try.func18, Try.ntmps18
    go_wp2_with fail
    generalize hW : w.alloc (.cells #[.int .i64 0, .int .i64 0, .slice none 0 0, .slice none 0 0] 48) = x0
    obtain ⟨pb, hsz, bel⟩ := laid1 (ps := [.int .i64 0, .int .i64 0, .slice none 0 0, .slice none 0 0]) hW
    have PB := Lib.hid pb
    have HS0 : Hid (w.heap.size + 1 ≤ x0.heap.size) := Lib.hid (by omega)
    clear hW pb hsz
    refine (HM _).out.mono ?_
    rintro e w1 ⟨rfl, hb⟩
    have PB1 := Lib.hid (PB.out.below hb)
    have HS1 : Hid (w.heap.size + 1 ≤ w1.heap.size) := Lib.hid (by have := HS0.out; have := hb.size; omega)
    have bel' := below_more bel hb
    clear hb PB bel HS0
    have bel := bel'
    clear bel'
    go_wp2_with fail
    refine (impl_opened a _).mono ?_
    rintro e w2 ⟨A0, n0, c0, rfl, ho, hb⟩
    have PB2 := Lib.hid (PB1.out.below hb)
    have HS2 : Hid (w.heap.size + 1 ≤ w2.heap.size) := Lib.hid (by have := HS1.out; have := hb.size; omega)
    have bel' := below_more bel hb
    have HO := Lib.hid (ho.lower (base := w1.heap.size) (base' := w.heap.size + 1) (by have := HS1.out; omega))
    clear hb PB1 bel ho
    have bel := bel'
    clear bel'
    go_wp2_with fail
    refine (impl_face a 4 A0 none n0 c0 0 0 _).mono ?_
    rintro e w3 ⟨rfl, hb⟩
    have PB3 := Lib.hid (PB2.out.below hb)
    have HO3 := Lib.hid (own_door (a := a) (HO.out.below hb))
    have bel3 := below_more bel hb
    have PB3r0 := PB3.out.cell 0 rfl
    have PB3f0 := PB3.out.free 0
    have PB3r1 := PB3.out.cell 1 rfl
    have PB3f1 := PB3.out.free 1
    have PB3r2 := PB3.out.cell 2 rfl
    have PB3f2 := PB3.out.free 2
    have PB3r3 := PB3.out.cell 3 rfl
    have PB3f3 := PB3.out.free 3
    have plt := PB3.out.lt
    clear hb PB2 bel HO
    go_wp2
    refine bodyPost_ret (v := .agg #[.int .i64 a, .int .i64 4, .slice A0 n0 c0, .slice none 0 0]) (by simp [results, Try.results18, go_sem, PB3r0, PB3r1, PB3r2, PB3r3]) rfl ?_
    rw [HR.out]
    exact ⟨_, rfl, (HO3.out.set4 (by omega) _ _ _ _).lower (by omega), (((bel3.setCell (by simp only []; omega) _).setCell (by simp only []; omega) _).setCell (by simp only []; omega) _).setCell (by simp only []; omega) _⟩
set_option maxHeartbeats 4000000 in
theorem implD_shutdoor (a : Int) (iw : (Lit.int .i64 a).wf = true) (w : World) : Calls Try.prog 22 #[.int .i64 a] w (RetD (dtDoor (shutD a)) w) := by
  have hz0 : ∀ x : World, Below x.heap.size x x := fun x => .refl _ _
  by_cases h : makerOf a < 0
  · have HR := Lib.hid (shutD_no h)
    have HM := fun x => Lib.hid (by have := impl_hasmaker a x iw; rw [decide_eq_false (by omega)] at this; exact this)
    clear h
    go_enter Try.func22, Try.ntmps22
    go_wp2_with fail
    generalize hW : w.alloc (.cells #[.int .i64 0, .int .i64 0, .slice none 0 0, .slice none 0 0] 48) = x0
    obtain ⟨pb, hsz, bel⟩ := laid1 (ps := [.int .i64 0, .int .i64 0, .slice none 0 0, .slice none 0 0]) hW
    have PB := Lib.hid pb
    clear hW pb
    refine (HM _).out.mono ?_
    rintro e w1 ⟨rfl, hb⟩
    have PB1 := Lib.hid (PB.out.below hb)
    have bel1 := below_more bel hb
    have PB1r0 := PB1.out.cell 0 rfl
    have PB1f0 := PB1.out.free 0
    have PB1r1 := PB1.out.cell 1 rfl
    have PB1f1 := PB1.out.free 1
    have PB1r2 := PB1.out.cell 2 rfl
    have PB1f2 := PB1.out.free 2
    have PB1r3 := PB1.out.cell 3 rfl
    have PB1f3 := PB1.out.free 3
    have plt := PB1.out.lt
    clear hb PB hsz bel
    go_wp2
    refine bodyPost_ret (v := .agg #[.int .i64 0, .int .i64 0, .slice none 0 0, .slice none 0 0]) (by simp [results, Try.results22, go_sem, PB1r0, PB1r1, PB1r2, PB1r3]) rfl ?_
    rw [HR.out]
    exact ⟨_, rfl, own_noDoor _ _, (((bel1.setCell (by simp only []; omega) _).setCell (by simp only []; omega) _).setCell (by simp only []; omega) _).setCell (by simp only []; omega) _⟩
  · have HR := Lib.hid (shutD_yes h)
    have HM := fun x => Lib.hid (by have := impl_hasmaker a x iw; rw [decide_eq_true (by omega)] at this; exact this)
    clear h
    go_enter Try.func22, Try.ntmps22
    go_wp2_with fail
    generalize hW : w.alloc (.cells #[.int .i64 0, .int .i64 0, .slice none 0 0, .slice none 0 0] 48) = x0
    obtain ⟨pb, hsz, bel⟩ := laid1 (ps := [.int .i64 0, .int .i64 0, .slice none 0 0, .slice none 0 0]) hW
    have PB := Lib.hid pb
    have HS0 : Hid (w.heap.size + 1 ≤ x0.heap.size) := Lib.hid (by omega)
    clear hW pb hsz
    refine (HM _).out.mono ?_
    rintro e w1 ⟨rfl, hb⟩
    have PB1 := Lib.hid (PB.out.below hb)
    have HS1 : Hid (w.heap.size + 1 ≤ w1.heap.size) := Lib.hid (by have := HS0.out; have := hb.size; omega)
    have bel' := below_more bel hb
    clear hb PB bel HS0
    have bel := bel'
    clear bel'
    go_wp2_with fail
    refine (impl_opened a _).mono ?_
    rintro e w2 ⟨A0, n0, c0, rfl, ho, hb⟩
    have PB2 := Lib.hid (PB1.out.below hb)
    have HS2 : Hid (w.heap.size + 1 ≤ w2.heap.size) := Lib.hid (by have := HS1.out; have := hb.size; omega)
    have bel' := below_more bel hb
    have HA := Lib.hid ho.rd
    clear hb PB1 bel ho
    have bel := bel'
    clear bel'
    go_wp2_with fail
    refine (impl_shut a A0 n0 c0 _ HA.out).mono ?_
    clear HA
    rintro e w2b ⟨A0, n0, c0, rfl, ho, hb⟩
    have PB2b := Lib.hid (PB2.out.below hb)
    have bel' := below_more bel hb
    have HO := Lib.hid (ho.lower (base := w2.heap.size) (base' := w.heap.size + 1) (by have := HS2.out; omega))
    clear hb PB2 bel ho
    have bel := bel'
    have PB2 := PB2b
    clear bel' PB2b
    go_wp2_with fail
    refine (impl_face a 4 A0 none n0 c0 0 0 _).mono ?_
    rintro e w3 ⟨rfl, hb⟩
    have PB3 := Lib.hid (PB2.out.below hb)
    have HO3 := Lib.hid (own_door (a := a) (HO.out.below hb))
    have bel3 := below_more bel hb
    have PB3r0 := PB3.out.cell 0 rfl
    have PB3f0 := PB3.out.free 0
    have PB3r1 := PB3.out.cell 1 rfl
    have PB3f1 := PB3.out.free 1
    have PB3r2 := PB3.out.cell 2 rfl
    have PB3f2 := PB3.out.free 2
    have PB3r3 := PB3.out.cell 3 rfl
    have PB3f3 := PB3.out.free 3
    have plt := PB3.out.lt
    clear hb PB2 bel HO
    go_wp2
    refine bodyPost_ret (v := .agg #[.int .i64 a, .int .i64 4, .slice A0 n0 c0, .slice none 0 0]) (by simp [results, Try.results22, go_sem, PB3r0, PB3r1, PB3r2, PB3r3]) rfl ?_
    rw [HR.out]
    exact ⟨_, rfl, (HO3.out.set4 (by omega) _ _ _ _).lower (by omega), (((bel3.setCell (by simp only []; omega) _).setCell (by simp only []; omega) _).setCell (by simp only []; omega) _).setCell (by simp only []; omega) _⟩
end Go.Proofs.Ytnpeojlhjbdjiaa
