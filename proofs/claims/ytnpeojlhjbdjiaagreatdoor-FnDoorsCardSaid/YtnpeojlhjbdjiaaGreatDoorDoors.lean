/-
  FnDoors: whatever the input, the law returns true and its arguments read as they did; no condition but the tie of the listed variables.
-/
import Derived.Test.YtnpeojlhjbdjiaaGreatDoorBase
import Derived.Test.YtnpeojlhjbdjiaaGreatDoorCards
import Derived.Test.YtnpeojlhjbdjiaaGreatDoorTie
import Derived.SevenTiedAt
import Derived.LaidMore
import Derived.Stop.Joined
import Derived.Test.YtnpeojlhjbdjiaaGreatDoorSpecOpen
import Derived.Test.YtnpeojlhjbdjiaaGreatDoorDraw7
import Derived.Test.YtnpeojlhjbdjiaaGreatDoorDrawHand
import Derived.Test.YtnpeojlhjbdjiaaGreatDoorLike7
import Derived.Test.YtnpeojlhjbdjiaaGreatDoorSpecDoor
import Derived.Test.YtnpeojlhjbdjiaaGreatDoorSpecLab5
import Derived.Test.YtnpeojlhjbdjiaaGreatDoorImplT
import Derived.Test.YtnpeojlhjbdjiaaGreatDoorImplTerms0
import Derived.Test.YtnpeojlhjbdjiaaGreatDoorImplDoor
import Derived.Test.YtnpeojlhjbdjiaaGreatDoorSent
namespace Go.Proofs.YtnpeojlhjbdjiaaGreatDoor.fnDoors
set_option maxRecDepth 100000
open Go.ChangeShapes Go.WideShapes Go.ChangeAt Go.RowKit
open Go.ChangeMaps (open_string shut_string)
set_option linter.unusedVariables false

theorem draw_opendoor (a : Option Addr) (len cap : Nat) (zs : List Int) (w : World) (hl : len ≤ 4096) (hr : IsRow .u8 w a len cap zs) : Calls Tryz.prog 6 #[.slice a len cap] w (DrI64 w) := by
  go_enter Tryz.func6, Tryz.ntmps6
  go_wp2_with (go_at_call 24; refine (draw_makerof a len cap zs _ hl hr).mono ?_; rintro e w1 ⟨x, hx, rfl, hb⟩)
  go_ret
  exact ⟨x, hx, rfl, hb⟩
theorem openD_sz (h : Int) : doorSz (openD h) ≤ 1048576 := by
  unfold openD
  split <;> simp [doorSz, noDoor, noLab, plainL, mssSz, mssSum] <;> split <;> simp
theorem shutD_sz (h : Int) : doorSz (shutD h) ≤ 1048576 := by
  unfold shutD
  split
  · simp [doorSz, noDoor, noLab, mssSz, mssSum]
  · have := withL_le (plainL 4) h 1
    simp only [doorSz, mssSz, mssSum, List.map_nil, List.sum_nil, List.length_nil]
    omega
theorem openD_lab (h : Int) : (openD h).label.parts.length ≤ 1048576 := by have := (openD_few h).2; omega
theorem shutD_lab (h : Int) : (shutD h).label.parts.length ≤ 1048576 := by have := (shutD_few h).2; omega
theorem door_lab {w : World} {d : Door} {A B : Option Addr} {n c m e : Nat} (h : Rds w (dtDoor d) [.int .i64 d.handle, .int .i64 d.label.base, .slice A n c, .slice B m e]) (hf : d.label.parts.length ≤ 1048576 := by first | exact openD_lab _ | exact shutD_lab _) : RdLab w (.agg #[.int .i64 d.label.base, .slice A n c]) d.label := by
  unfold dtDoor at h
  obtain ⟨_, e1, h1⟩ := h.num
  cases e1
  obtain ⟨u1, u2, e2, h2, -⟩ := Rds.split (ds := dtLab d.label) h1
  obtain ⟨rfl, -⟩ := List.append_inj (s₁ := [Value.int .i64 d.label.base, Value.slice A n c]) e2 (by rw [h2.length]; rfl)
  exact h2.lab hf

set_option maxHeartbeats 16000000 in
theorem walk {w : World} (a : Option Addr) (len cap : Nat) (zs : List Int) (w0 : IsRow .u8 w a len cap zs) (hs : Sent w 1) :
    Calls Tryz.prog 3 #[.slice a len cap] w fun e w' => e = .returned (.bool true) ∧ Below w.heap.size w w' := by
  by_cases hl : len ≤ 4096
  · go_enter Tryz.func3, Tryz.ntmps3
    go_wp2_with fail
    refine (big_no a len cap _ (by omega)).mono ?_
    rintro e0 w1 ⟨rfl, rfl⟩
    go_wp2_with fail
    refine (draw_doorok a len cap zs _ hl w0).mono ?_
    rintro e y0 ⟨ud, d, rfl, ⟨fd, qd⟩, rd, hb⟩
    have bel' : Below w.heap.size w y0 := hb
    clear hb
    have bel := bel'
    clear bel'
    have QD := Lib.hid qd
    clear qd
    have RD := Lib.hid rd
    obtain ⟨Ad0, nd0, cd0, Ad1, nd1, cd1, rfl⟩ := shp_door rd
    clear rd
    go_wp2_with fail
    generalize hW : y0.alloc (.cells #[.int .i64 d.handle, .int .i64 d.label.base, .slice Ad0 nd0 cd0, .slice Ad1 nd1 cd1] 29) = x1
    obtain ⟨nb0, hsz, hb⟩ := laid1 (ps := [.int .i64 d.handle, .int .i64 d.label.base, .slice Ad0 nd0 cd0, .slice Ad1 nd1 cd1]) hW
    have RD' := Lib.hid (RD.out.below hb)
    clear RD
    have RD := RD'
    clear RD'
    have bel' : Below w.heap.size w x1 := below_more bel hb
    clear bel hb
    have bel := bel'
    clear bel'
    have BD := Lib.hid nb0
    clear hW hsz nb0
    refine (draw_opendoor a len cap zs _ hl (w0.below bel)).mono ?_
    rintro e y2 ⟨h, hw, rfl, hb⟩
    have BD' := Lib.hid (BD.out.below hb)
    clear BD
    have BD := BD'
    clear BD'
    have RD' := Lib.hid (RD.out.below hb)
    clear RD
    have RD := RD'
    clear RD'
    have bel' : Below w.heap.size w y2 := below_more bel hb
    clear bel hb
    have bel := bel'
    clear bel'
    have HW := Lib.hid hw.wf
    clear hw
    go_wp2_with fail
    refine (draw_msgok a len cap zs _ hl (w0.below bel)).mono ?_
    rintro e y3 ⟨um, m, rfl, fm, rm, hb⟩
    have BD' := Lib.hid (BD.out.below hb)
    clear BD
    have BD := BD'
    clear BD'
    have RD' := Lib.hid (RD.out.below hb)
    clear RD
    have RD := RD'
    clear RD'
    have bel' : Below w.heap.size w y3 := below_more bel hb
    clear bel hb
    have bel := bel'
    clear bel'
    have RM := Lib.hid rm
    obtain ⟨Am0, nm0, cm0, Am1, nm1, cm1, Am2, nm2, cm2, Am3, nm3, cm3, Am4, nm4, cm4, rfl⟩ := shp_ms rm
    clear rm
    go_wp2_with fail
    generalize hW : y3.alloc (.cells #[.int .i64 m.frm, .int .i64 m.value, .int .i64 m.eff.base, .slice Am0 nm0 cm0, .int .i64 m.terms.taint.base, .slice Am1 nm1 cm1, .int .i64 m.terms.clear.base, .slice Am2 nm2 cm2, .int .i64 m.terms.raise.base, .slice Am3 nm3 cm3, .int .i64 m.terms.verify.base, .slice Am4 nm4 cm4] 35) = x4
    obtain ⟨nb0, hsz, hb⟩ := laid1 (ps := [.int .i64 m.frm, .int .i64 m.value, .int .i64 m.eff.base, .slice Am0 nm0 cm0, .int .i64 m.terms.taint.base, .slice Am1 nm1 cm1, .int .i64 m.terms.clear.base, .slice Am2 nm2 cm2, .int .i64 m.terms.raise.base, .slice Am3 nm3 cm3, .int .i64 m.terms.verify.base, .slice Am4 nm4 cm4]) hW
    have BD' := Lib.hid (BD.out.below hb)
    clear BD
    have BD := BD'
    clear BD'
    have RD' := Lib.hid (RD.out.below hb)
    clear RD
    have RD := RD'
    clear RD'
    have RM' := Lib.hid (RM.out.below hb)
    clear RM
    have RM := RM'
    clear RM'
    have bel' : Below w.heap.size w x4 := below_more bel hb
    clear bel hb
    have bel := bel'
    clear bel'
    have BM := Lib.hid nb0
    clear hW hsz nb0
    refine (implD_opendoor h HW.out _).mono ?_
    rintro e y5 ⟨uo, rfl, ow, hb⟩
    have BD' := Lib.hid (BD.out.below hb)
    clear BD
    have BD := BD'
    clear BD'
    have BM' := Lib.hid (BM.out.below hb)
    clear BM
    have BM := BM'
    clear BM'
    have RD' := Lib.hid (RD.out.below hb)
    clear RD
    have RD := RD'
    clear RD'
    have RM' := Lib.hid (RM.out.below hb)
    clear RM
    have RM := RM'
    clear RM'
    have bel' : Below w.heap.size w y5 := below_more bel hb
    clear bel hb
    have bel := bel'
    clear bel'
    have RO := Lib.hid ow.rd
    obtain ⟨Ao0, no0, co0, Ao1, no1, co1, rfl⟩ := shp_door ow.rd
    clear ow
    go_wp2_with fail
    generalize hW : y5.alloc (.cells #[.int .i64 (openD h).handle, .int .i64 (openD h).label.base, .slice Ao0 no0 co0, .slice Ao1 no1 co1] 29) = x6
    obtain ⟨nb0, hsz, hb⟩ := laid1 (ps := [.int .i64 (openD h).handle, .int .i64 (openD h).label.base, .slice Ao0 no0 co0, .slice Ao1 no1 co1]) hW
    have BD' := Lib.hid (BD.out.below hb)
    clear BD
    have BD := BD'
    clear BD'
    have BM' := Lib.hid (BM.out.below hb)
    clear BM
    have BM := BM'
    clear BM'
    have RD' := Lib.hid (RD.out.below hb)
    clear RD
    have RD := RD'
    clear RD'
    have RM' := Lib.hid (RM.out.below hb)
    clear RM
    have RM := RM'
    clear RM'
    have RO' := Lib.hid (RO.out.below hb)
    clear RO
    have RO := RO'
    clear RO'
    have bel' : Below w.heap.size w x6 := below_more bel hb
    clear bel hb
    have bel := bel'
    clear bel'
    have BO := Lib.hid nb0
    clear hW hsz nb0
    refine (implD_shutdoor h HW.out _).mono ?_
    rintro e y7 ⟨us, rfl, ow, hb⟩
    have BD' := Lib.hid (BD.out.below hb)
    clear BD
    have BD := BD'
    clear BD'
    have BM' := Lib.hid (BM.out.below hb)
    clear BM
    have BM := BM'
    clear BM'
    have BO' := Lib.hid (BO.out.below hb)
    clear BO
    have BO := BO'
    clear BO'
    have RD' := Lib.hid (RD.out.below hb)
    clear RD
    have RD := RD'
    clear RD'
    have RM' := Lib.hid (RM.out.below hb)
    clear RM
    have RM := RM'
    clear RM'
    have RO' := Lib.hid (RO.out.below hb)
    clear RO
    have RO := RO'
    clear RO'
    have bel' : Below w.heap.size w y7 := below_more bel hb
    clear bel hb
    have bel := bel'
    clear bel'
    have RS := Lib.hid ow.rd
    obtain ⟨As0, ns0, cs0, As1, ns1, cs1, rfl⟩ := shp_door ow.rd
    clear ow
    have hfo := openD_sz h
    have hfs := shutD_sz h
    go_upto_region 8 with fail
    generalize hW : y7.alloc (.cells #[.int .i64 (shutD h).handle, .int .i64 (shutD h).label.base, .slice As0 ns0 cs0, .slice As1 ns1 cs1] 29) = x8
    obtain ⟨nb0, hsz, hb⟩ := laid1 (ps := [.int .i64 (shutD h).handle, .int .i64 (shutD h).label.base, .slice As0 ns0 cs0, .slice As1 ns1 cs1]) hW
    have BD' := Lib.hid (BD.out.below hb)
    clear BD
    have BD := BD'
    clear BD'
    have BM' := Lib.hid (BM.out.below hb)
    clear BM
    have BM := BM'
    clear BM'
    have BO' := Lib.hid (BO.out.below hb)
    clear BO
    have BO := BO'
    clear BO'
    have RD' := Lib.hid (RD.out.below hb)
    clear RD
    have RD := RD'
    clear RD'
    have RM' := Lib.hid (RM.out.below hb)
    clear RM
    have RM := RM'
    clear RM'
    have RO' := Lib.hid (RO.out.below hb)
    clear RO
    have RO := RO'
    clear RO'
    have RS' := Lib.hid (RS.out.below hb)
    clear RS
    have RS := RS'
    clear RS'
    have bel' : Below w.heap.size w x8 := below_more bel hb
    clear bel hb
    have bel := bel'
    clear bel'
    have BS := Lib.hid nb0
    clear hW hsz nb0
    have BDk0 := BD.out.cell 0 rfl
    have BDk1 := BD.out.cell 1 rfl
    have BDk2 := BD.out.cell 2 rfl
    have BDk3 := BD.out.cell 3 rfl
    have BDkz := BD.out.lt
    have BMk0 := BM.out.cell 0 rfl
    have BMk1 := BM.out.cell 1 rfl
    have BMk2 := BM.out.cell 2 rfl
    have BMk3 := BM.out.cell 3 rfl
    have BMk4 := BM.out.cell 4 rfl
    have BMk5 := BM.out.cell 5 rfl
    have BMk6 := BM.out.cell 6 rfl
    have BMk7 := BM.out.cell 7 rfl
    have BMk8 := BM.out.cell 8 rfl
    have BMk9 := BM.out.cell 9 rfl
    have BMk10 := BM.out.cell 10 rfl
    have BMk11 := BM.out.cell 11 rfl
    have BMkz := BM.out.lt
    have BOk0 := BO.out.cell 0 rfl
    have BOk1 := BO.out.cell 1 rfl
    have BOk2 := BO.out.cell 2 rfl
    have BOk3 := BO.out.cell 3 rfl
    have BOkz := BO.out.lt
    have BSk0 := BS.out.cell 0 rfl
    have BSk1 := BS.out.cell 1 rfl
    have BSk2 := BS.out.cell 2 rfl
    have BSk3 := BS.out.cell 3 rfl
    have BSkz := BS.out.lt
    have HC := Lib.hid (Below.refl x8.heap.size x8)
    go_wp2
    go_region_held3 (fun w' => w'.cell? ⟨y0.heap.size, 0, none⟩ = some (.int .i64 d.handle) ∧ w'.cell? ⟨y0.heap.size, 1, none⟩ = some (.int .i64 d.label.base) ∧ w'.cell? ⟨y0.heap.size, 2, none⟩ = some (.slice Ad0 nd0 cd0) ∧ w'.cell? ⟨y0.heap.size, 3, none⟩ = some (.slice Ad1 nd1 cd1) ∧ w'.cell? ⟨y3.heap.size, 0, none⟩ = some (.int .i64 m.frm) ∧ w'.cell? ⟨y3.heap.size, 1, none⟩ = some (.int .i64 m.value) ∧ w'.cell? ⟨y3.heap.size, 2, none⟩ = some (.int .i64 m.eff.base) ∧ w'.cell? ⟨y3.heap.size, 3, none⟩ = some (.slice Am0 nm0 cm0) ∧ w'.cell? ⟨y3.heap.size, 4, none⟩ = some (.int .i64 m.terms.taint.base) ∧ w'.cell? ⟨y3.heap.size, 5, none⟩ = some (.slice Am1 nm1 cm1) ∧ w'.cell? ⟨y3.heap.size, 6, none⟩ = some (.int .i64 m.terms.clear.base) ∧ w'.cell? ⟨y3.heap.size, 7, none⟩ = some (.slice Am2 nm2 cm2) ∧ w'.cell? ⟨y3.heap.size, 8, none⟩ = some (.int .i64 m.terms.raise.base) ∧ w'.cell? ⟨y3.heap.size, 9, none⟩ = some (.slice Am3 nm3 cm3) ∧ w'.cell? ⟨y3.heap.size, 10, none⟩ = some (.int .i64 m.terms.verify.base) ∧ w'.cell? ⟨y3.heap.size, 11, none⟩ = some (.slice Am4 nm4 cm4) ∧ w'.cell? ⟨y5.heap.size, 0, none⟩ = some (.int .i64 (openD h).handle) ∧ w'.cell? ⟨y5.heap.size, 1, none⟩ = some (.int .i64 (openD h).label.base) ∧ w'.cell? ⟨y5.heap.size, 2, none⟩ = some (.slice Ao0 no0 co0) ∧ w'.cell? ⟨y5.heap.size, 3, none⟩ = some (.slice Ao1 no1 co1) ∧ w'.cell? ⟨y7.heap.size, 0, none⟩ = some (.int .i64 (shutD h).handle) ∧ w'.cell? ⟨y7.heap.size, 1, none⟩ = some (.int .i64 (shutD h).label.base) ∧ w'.cell? ⟨y7.heap.size, 2, none⟩ = some (.slice As0 ns0 cs0) ∧ w'.cell? ⟨y7.heap.size, 3, none⟩ = some (.slice As1 ns1 cs1))
      (first | exact ⟨ff0, ff1, ff2, ff3, ff4, ff5, ff6, ff7, ff8, ff9, ff10, ff11, ff12, ff13, ff14, ff15, ff16, ff17, ff18, ff19, ff20, ff21, ff22, ff23⟩ | go_keep)
      (first
      | (go_at_call 10
         refine (implD_doorok (us := [.int .i64 d.handle, .int .i64 d.label.base, .slice Ad0 nd0 cd0, .slice Ad1 nd1 cd1]) (by first | exact RD.out.below HC.out | exact (RD.out.below HC.out).below (Below.refl _ _).drew) (by omega) QD.out).mono ?_
         rintro e wn ⟨rfl, hb⟩
         have HC' : Hid (Below x8.heap.size x8 wn) := Lib.hid (by first | exact below_more HC.out hb | exact below_more HC.out (below_undrew hb))
         clear HC
         have HC := HC'
         clear HC'
         try clear ff0 ff1 ff2 ff3 ff4 ff5 ff6 ff7 ff8 ff9 ff10 ff11 ff12 ff13 ff14 ff15 ff16 ff17 ff18 ff19 ff20 ff21 ff22 ff23
         have ff0 : wn.cell? ⟨y0.heap.size, 0, none⟩ = some (.int .i64 d.handle) := (BD.out.below HC.out).cell 0 rfl
         have ff1 : wn.cell? ⟨y0.heap.size, 1, none⟩ = some (.int .i64 d.label.base) := (BD.out.below HC.out).cell 1 rfl
         have ff2 : wn.cell? ⟨y0.heap.size, 2, none⟩ = some (.slice Ad0 nd0 cd0) := (BD.out.below HC.out).cell 2 rfl
         have ff3 : wn.cell? ⟨y0.heap.size, 3, none⟩ = some (.slice Ad1 nd1 cd1) := (BD.out.below HC.out).cell 3 rfl
         have ff4 : wn.cell? ⟨y3.heap.size, 0, none⟩ = some (.int .i64 m.frm) := (BM.out.below HC.out).cell 0 rfl
         have ff5 : wn.cell? ⟨y3.heap.size, 1, none⟩ = some (.int .i64 m.value) := (BM.out.below HC.out).cell 1 rfl
         have ff6 : wn.cell? ⟨y3.heap.size, 2, none⟩ = some (.int .i64 m.eff.base) := (BM.out.below HC.out).cell 2 rfl
         have ff7 : wn.cell? ⟨y3.heap.size, 3, none⟩ = some (.slice Am0 nm0 cm0) := (BM.out.below HC.out).cell 3 rfl
         have ff8 : wn.cell? ⟨y3.heap.size, 4, none⟩ = some (.int .i64 m.terms.taint.base) := (BM.out.below HC.out).cell 4 rfl
         have ff9 : wn.cell? ⟨y3.heap.size, 5, none⟩ = some (.slice Am1 nm1 cm1) := (BM.out.below HC.out).cell 5 rfl
         have ff10 : wn.cell? ⟨y3.heap.size, 6, none⟩ = some (.int .i64 m.terms.clear.base) := (BM.out.below HC.out).cell 6 rfl
         have ff11 : wn.cell? ⟨y3.heap.size, 7, none⟩ = some (.slice Am2 nm2 cm2) := (BM.out.below HC.out).cell 7 rfl
         have ff12 : wn.cell? ⟨y3.heap.size, 8, none⟩ = some (.int .i64 m.terms.raise.base) := (BM.out.below HC.out).cell 8 rfl
         have ff13 : wn.cell? ⟨y3.heap.size, 9, none⟩ = some (.slice Am3 nm3 cm3) := (BM.out.below HC.out).cell 9 rfl
         have ff14 : wn.cell? ⟨y3.heap.size, 10, none⟩ = some (.int .i64 m.terms.verify.base) := (BM.out.below HC.out).cell 10 rfl
         have ff15 : wn.cell? ⟨y3.heap.size, 11, none⟩ = some (.slice Am4 nm4 cm4) := (BM.out.below HC.out).cell 11 rfl
         have ff16 : wn.cell? ⟨y5.heap.size, 0, none⟩ = some (.int .i64 (openD h).handle) := (BO.out.below HC.out).cell 0 rfl
         have ff17 : wn.cell? ⟨y5.heap.size, 1, none⟩ = some (.int .i64 (openD h).label.base) := (BO.out.below HC.out).cell 1 rfl
         have ff18 : wn.cell? ⟨y5.heap.size, 2, none⟩ = some (.slice Ao0 no0 co0) := (BO.out.below HC.out).cell 2 rfl
         have ff19 : wn.cell? ⟨y5.heap.size, 3, none⟩ = some (.slice Ao1 no1 co1) := (BO.out.below HC.out).cell 3 rfl
         have ff20 : wn.cell? ⟨y7.heap.size, 0, none⟩ = some (.int .i64 (shutD h).handle) := (BS.out.below HC.out).cell 0 rfl
         have ff21 : wn.cell? ⟨y7.heap.size, 1, none⟩ = some (.int .i64 (shutD h).label.base) := (BS.out.below HC.out).cell 1 rfl
         have ff22 : wn.cell? ⟨y7.heap.size, 2, none⟩ = some (.slice As0 ns0 cs0) := (BS.out.below HC.out).cell 2 rfl
         have ff23 : wn.cell? ⟨y7.heap.size, 3, none⟩ = some (.slice As1 ns1 cs1) := (BS.out.below HC.out).cell 3 rfl
         skip
         clear hb)
      | (go_at_call 11
         refine (specD_doorok (us := [.int .i64 d.handle, .int .i64 d.label.base, .slice Ad0 nd0 cd0, .slice Ad1 nd1 cd1]) (by first | exact RD.out.below HC.out | exact (RD.out.below HC.out).below (Below.refl _ _).drew) (by omega)).mono ?_
         rintro e wn ⟨rfl, hb⟩
         have HC' : Hid (Below x8.heap.size x8 wn) := Lib.hid (by first | exact below_more HC.out hb | exact below_more HC.out (below_undrew hb))
         clear HC
         have HC := HC'
         clear HC'
         try clear ff0 ff1 ff2 ff3 ff4 ff5 ff6 ff7 ff8 ff9 ff10 ff11 ff12 ff13 ff14 ff15 ff16 ff17 ff18 ff19 ff20 ff21 ff22 ff23
         have ff0 : wn.cell? ⟨y0.heap.size, 0, none⟩ = some (.int .i64 d.handle) := (BD.out.below HC.out).cell 0 rfl
         have ff1 : wn.cell? ⟨y0.heap.size, 1, none⟩ = some (.int .i64 d.label.base) := (BD.out.below HC.out).cell 1 rfl
         have ff2 : wn.cell? ⟨y0.heap.size, 2, none⟩ = some (.slice Ad0 nd0 cd0) := (BD.out.below HC.out).cell 2 rfl
         have ff3 : wn.cell? ⟨y0.heap.size, 3, none⟩ = some (.slice Ad1 nd1 cd1) := (BD.out.below HC.out).cell 3 rfl
         have ff4 : wn.cell? ⟨y3.heap.size, 0, none⟩ = some (.int .i64 m.frm) := (BM.out.below HC.out).cell 0 rfl
         have ff5 : wn.cell? ⟨y3.heap.size, 1, none⟩ = some (.int .i64 m.value) := (BM.out.below HC.out).cell 1 rfl
         have ff6 : wn.cell? ⟨y3.heap.size, 2, none⟩ = some (.int .i64 m.eff.base) := (BM.out.below HC.out).cell 2 rfl
         have ff7 : wn.cell? ⟨y3.heap.size, 3, none⟩ = some (.slice Am0 nm0 cm0) := (BM.out.below HC.out).cell 3 rfl
         have ff8 : wn.cell? ⟨y3.heap.size, 4, none⟩ = some (.int .i64 m.terms.taint.base) := (BM.out.below HC.out).cell 4 rfl
         have ff9 : wn.cell? ⟨y3.heap.size, 5, none⟩ = some (.slice Am1 nm1 cm1) := (BM.out.below HC.out).cell 5 rfl
         have ff10 : wn.cell? ⟨y3.heap.size, 6, none⟩ = some (.int .i64 m.terms.clear.base) := (BM.out.below HC.out).cell 6 rfl
         have ff11 : wn.cell? ⟨y3.heap.size, 7, none⟩ = some (.slice Am2 nm2 cm2) := (BM.out.below HC.out).cell 7 rfl
         have ff12 : wn.cell? ⟨y3.heap.size, 8, none⟩ = some (.int .i64 m.terms.raise.base) := (BM.out.below HC.out).cell 8 rfl
         have ff13 : wn.cell? ⟨y3.heap.size, 9, none⟩ = some (.slice Am3 nm3 cm3) := (BM.out.below HC.out).cell 9 rfl
         have ff14 : wn.cell? ⟨y3.heap.size, 10, none⟩ = some (.int .i64 m.terms.verify.base) := (BM.out.below HC.out).cell 10 rfl
         have ff15 : wn.cell? ⟨y3.heap.size, 11, none⟩ = some (.slice Am4 nm4 cm4) := (BM.out.below HC.out).cell 11 rfl
         have ff16 : wn.cell? ⟨y5.heap.size, 0, none⟩ = some (.int .i64 (openD h).handle) := (BO.out.below HC.out).cell 0 rfl
         have ff17 : wn.cell? ⟨y5.heap.size, 1, none⟩ = some (.int .i64 (openD h).label.base) := (BO.out.below HC.out).cell 1 rfl
         have ff18 : wn.cell? ⟨y5.heap.size, 2, none⟩ = some (.slice Ao0 no0 co0) := (BO.out.below HC.out).cell 2 rfl
         have ff19 : wn.cell? ⟨y5.heap.size, 3, none⟩ = some (.slice Ao1 no1 co1) := (BO.out.below HC.out).cell 3 rfl
         have ff20 : wn.cell? ⟨y7.heap.size, 0, none⟩ = some (.int .i64 (shutD h).handle) := (BS.out.below HC.out).cell 0 rfl
         have ff21 : wn.cell? ⟨y7.heap.size, 1, none⟩ = some (.int .i64 (shutD h).label.base) := (BS.out.below HC.out).cell 1 rfl
         have ff22 : wn.cell? ⟨y7.heap.size, 2, none⟩ = some (.slice As0 ns0 cs0) := (BS.out.below HC.out).cell 2 rfl
         have ff23 : wn.cell? ⟨y7.heap.size, 3, none⟩ = some (.slice As1 ns1 cs1) := (BS.out.below HC.out).cell 3 rfl
         skip
         clear hb)
      | (go_at_call 13
         refine (specD_opendoor h _).mono ?_
         rintro e wn ⟨vv, rfl, ow, hb⟩
         have HC' : Hid (Below x8.heap.size x8 wn) := Lib.hid (by first | exact below_more HC.out hb | exact below_more HC.out (below_undrew hb))
         clear HC
         have HC := HC'
         clear HC'
         try clear ff0 ff1 ff2 ff3 ff4 ff5 ff6 ff7 ff8 ff9 ff10 ff11 ff12 ff13 ff14 ff15 ff16 ff17 ff18 ff19 ff20 ff21 ff22 ff23
         have ff0 : wn.cell? ⟨y0.heap.size, 0, none⟩ = some (.int .i64 d.handle) := (BD.out.below HC.out).cell 0 rfl
         have ff1 : wn.cell? ⟨y0.heap.size, 1, none⟩ = some (.int .i64 d.label.base) := (BD.out.below HC.out).cell 1 rfl
         have ff2 : wn.cell? ⟨y0.heap.size, 2, none⟩ = some (.slice Ad0 nd0 cd0) := (BD.out.below HC.out).cell 2 rfl
         have ff3 : wn.cell? ⟨y0.heap.size, 3, none⟩ = some (.slice Ad1 nd1 cd1) := (BD.out.below HC.out).cell 3 rfl
         have ff4 : wn.cell? ⟨y3.heap.size, 0, none⟩ = some (.int .i64 m.frm) := (BM.out.below HC.out).cell 0 rfl
         have ff5 : wn.cell? ⟨y3.heap.size, 1, none⟩ = some (.int .i64 m.value) := (BM.out.below HC.out).cell 1 rfl
         have ff6 : wn.cell? ⟨y3.heap.size, 2, none⟩ = some (.int .i64 m.eff.base) := (BM.out.below HC.out).cell 2 rfl
         have ff7 : wn.cell? ⟨y3.heap.size, 3, none⟩ = some (.slice Am0 nm0 cm0) := (BM.out.below HC.out).cell 3 rfl
         have ff8 : wn.cell? ⟨y3.heap.size, 4, none⟩ = some (.int .i64 m.terms.taint.base) := (BM.out.below HC.out).cell 4 rfl
         have ff9 : wn.cell? ⟨y3.heap.size, 5, none⟩ = some (.slice Am1 nm1 cm1) := (BM.out.below HC.out).cell 5 rfl
         have ff10 : wn.cell? ⟨y3.heap.size, 6, none⟩ = some (.int .i64 m.terms.clear.base) := (BM.out.below HC.out).cell 6 rfl
         have ff11 : wn.cell? ⟨y3.heap.size, 7, none⟩ = some (.slice Am2 nm2 cm2) := (BM.out.below HC.out).cell 7 rfl
         have ff12 : wn.cell? ⟨y3.heap.size, 8, none⟩ = some (.int .i64 m.terms.raise.base) := (BM.out.below HC.out).cell 8 rfl
         have ff13 : wn.cell? ⟨y3.heap.size, 9, none⟩ = some (.slice Am3 nm3 cm3) := (BM.out.below HC.out).cell 9 rfl
         have ff14 : wn.cell? ⟨y3.heap.size, 10, none⟩ = some (.int .i64 m.terms.verify.base) := (BM.out.below HC.out).cell 10 rfl
         have ff15 : wn.cell? ⟨y3.heap.size, 11, none⟩ = some (.slice Am4 nm4 cm4) := (BM.out.below HC.out).cell 11 rfl
         have ff16 : wn.cell? ⟨y5.heap.size, 0, none⟩ = some (.int .i64 (openD h).handle) := (BO.out.below HC.out).cell 0 rfl
         have ff17 : wn.cell? ⟨y5.heap.size, 1, none⟩ = some (.int .i64 (openD h).label.base) := (BO.out.below HC.out).cell 1 rfl
         have ff18 : wn.cell? ⟨y5.heap.size, 2, none⟩ = some (.slice Ao0 no0 co0) := (BO.out.below HC.out).cell 2 rfl
         have ff19 : wn.cell? ⟨y5.heap.size, 3, none⟩ = some (.slice Ao1 no1 co1) := (BO.out.below HC.out).cell 3 rfl
         have ff20 : wn.cell? ⟨y7.heap.size, 0, none⟩ = some (.int .i64 (shutD h).handle) := (BS.out.below HC.out).cell 0 rfl
         have ff21 : wn.cell? ⟨y7.heap.size, 1, none⟩ = some (.int .i64 (shutD h).label.base) := (BS.out.below HC.out).cell 1 rfl
         have ff22 : wn.cell? ⟨y7.heap.size, 2, none⟩ = some (.slice As0 ns0 cs0) := (BS.out.below HC.out).cell 2 rfl
         have ff23 : wn.cell? ⟨y7.heap.size, 3, none⟩ = some (.slice As1 ns1 cs1) := (BS.out.below HC.out).cell 3 rfl
         try (have PS' := Lib.hid (PS.out.below (by first | exact hb | exact below_undrew hb))
              clear PS
              have PS := PS'
              clear PS')
         have PO := Lib.hid ow.rd
         obtain ⟨Ax0, nx0, cx0, Ax1, nx1, cx1, rfl⟩ := shp_door ow.rd
         clear hb)
      | (go_at_call 14
         refine (specD_shutdoor h _).mono ?_
         rintro e wn ⟨vv, rfl, ow, hb⟩
         have HC' : Hid (Below x8.heap.size x8 wn) := Lib.hid (by first | exact below_more HC.out hb | exact below_more HC.out (below_undrew hb))
         clear HC
         have HC := HC'
         clear HC'
         try clear ff0 ff1 ff2 ff3 ff4 ff5 ff6 ff7 ff8 ff9 ff10 ff11 ff12 ff13 ff14 ff15 ff16 ff17 ff18 ff19 ff20 ff21 ff22 ff23
         have ff0 : wn.cell? ⟨y0.heap.size, 0, none⟩ = some (.int .i64 d.handle) := (BD.out.below HC.out).cell 0 rfl
         have ff1 : wn.cell? ⟨y0.heap.size, 1, none⟩ = some (.int .i64 d.label.base) := (BD.out.below HC.out).cell 1 rfl
         have ff2 : wn.cell? ⟨y0.heap.size, 2, none⟩ = some (.slice Ad0 nd0 cd0) := (BD.out.below HC.out).cell 2 rfl
         have ff3 : wn.cell? ⟨y0.heap.size, 3, none⟩ = some (.slice Ad1 nd1 cd1) := (BD.out.below HC.out).cell 3 rfl
         have ff4 : wn.cell? ⟨y3.heap.size, 0, none⟩ = some (.int .i64 m.frm) := (BM.out.below HC.out).cell 0 rfl
         have ff5 : wn.cell? ⟨y3.heap.size, 1, none⟩ = some (.int .i64 m.value) := (BM.out.below HC.out).cell 1 rfl
         have ff6 : wn.cell? ⟨y3.heap.size, 2, none⟩ = some (.int .i64 m.eff.base) := (BM.out.below HC.out).cell 2 rfl
         have ff7 : wn.cell? ⟨y3.heap.size, 3, none⟩ = some (.slice Am0 nm0 cm0) := (BM.out.below HC.out).cell 3 rfl
         have ff8 : wn.cell? ⟨y3.heap.size, 4, none⟩ = some (.int .i64 m.terms.taint.base) := (BM.out.below HC.out).cell 4 rfl
         have ff9 : wn.cell? ⟨y3.heap.size, 5, none⟩ = some (.slice Am1 nm1 cm1) := (BM.out.below HC.out).cell 5 rfl
         have ff10 : wn.cell? ⟨y3.heap.size, 6, none⟩ = some (.int .i64 m.terms.clear.base) := (BM.out.below HC.out).cell 6 rfl
         have ff11 : wn.cell? ⟨y3.heap.size, 7, none⟩ = some (.slice Am2 nm2 cm2) := (BM.out.below HC.out).cell 7 rfl
         have ff12 : wn.cell? ⟨y3.heap.size, 8, none⟩ = some (.int .i64 m.terms.raise.base) := (BM.out.below HC.out).cell 8 rfl
         have ff13 : wn.cell? ⟨y3.heap.size, 9, none⟩ = some (.slice Am3 nm3 cm3) := (BM.out.below HC.out).cell 9 rfl
         have ff14 : wn.cell? ⟨y3.heap.size, 10, none⟩ = some (.int .i64 m.terms.verify.base) := (BM.out.below HC.out).cell 10 rfl
         have ff15 : wn.cell? ⟨y3.heap.size, 11, none⟩ = some (.slice Am4 nm4 cm4) := (BM.out.below HC.out).cell 11 rfl
         have ff16 : wn.cell? ⟨y5.heap.size, 0, none⟩ = some (.int .i64 (openD h).handle) := (BO.out.below HC.out).cell 0 rfl
         have ff17 : wn.cell? ⟨y5.heap.size, 1, none⟩ = some (.int .i64 (openD h).label.base) := (BO.out.below HC.out).cell 1 rfl
         have ff18 : wn.cell? ⟨y5.heap.size, 2, none⟩ = some (.slice Ao0 no0 co0) := (BO.out.below HC.out).cell 2 rfl
         have ff19 : wn.cell? ⟨y5.heap.size, 3, none⟩ = some (.slice Ao1 no1 co1) := (BO.out.below HC.out).cell 3 rfl
         have ff20 : wn.cell? ⟨y7.heap.size, 0, none⟩ = some (.int .i64 (shutD h).handle) := (BS.out.below HC.out).cell 0 rfl
         have ff21 : wn.cell? ⟨y7.heap.size, 1, none⟩ = some (.int .i64 (shutD h).label.base) := (BS.out.below HC.out).cell 1 rfl
         have ff22 : wn.cell? ⟨y7.heap.size, 2, none⟩ = some (.slice As0 ns0 cs0) := (BS.out.below HC.out).cell 2 rfl
         have ff23 : wn.cell? ⟨y7.heap.size, 3, none⟩ = some (.slice As1 ns1 cs1) := (BS.out.below HC.out).cell 3 rfl
         try (have PO' := Lib.hid (PO.out.below (by first | exact hb | exact below_undrew hb))
              clear PO
              have PO := PO'
              clear PO')
         have PS := Lib.hid ow.rd
         obtain ⟨Ay0, ny0, cy0, Ay1, ny1, cy1, rfl⟩ := shp_door ow.rd
         clear hb)
      | (go_at_call_of 12 (Value.agg #[Value.int IntKind.i64 (openD h).handle, Value.int IntKind.i64 (openD h).label.base, Value.slice Ao0 no0 co0, Value.slice Ao1 no1 co1])
         refine (likeD_door (us := [.int .i64 (openD h).handle, .int .i64 (openD h).label.base, .slice Ao0 no0 co0, .slice Ao1 no1 co1]) (by first | exact RO.out.below HC.out | exact (RO.out.below HC.out).below (Below.refl _ _).drew) PO.out hfo).mono ?_
         rintro e wn ⟨rfl, hb⟩
         have HC' : Hid (Below x8.heap.size x8 wn) := Lib.hid (by first | exact below_more HC.out hb | exact below_more HC.out (below_undrew hb))
         clear HC
         have HC := HC'
         clear HC'
         try clear ff0 ff1 ff2 ff3 ff4 ff5 ff6 ff7 ff8 ff9 ff10 ff11 ff12 ff13 ff14 ff15 ff16 ff17 ff18 ff19 ff20 ff21 ff22 ff23
         have ff0 : wn.cell? ⟨y0.heap.size, 0, none⟩ = some (.int .i64 d.handle) := (BD.out.below HC.out).cell 0 rfl
         have ff1 : wn.cell? ⟨y0.heap.size, 1, none⟩ = some (.int .i64 d.label.base) := (BD.out.below HC.out).cell 1 rfl
         have ff2 : wn.cell? ⟨y0.heap.size, 2, none⟩ = some (.slice Ad0 nd0 cd0) := (BD.out.below HC.out).cell 2 rfl
         have ff3 : wn.cell? ⟨y0.heap.size, 3, none⟩ = some (.slice Ad1 nd1 cd1) := (BD.out.below HC.out).cell 3 rfl
         have ff4 : wn.cell? ⟨y3.heap.size, 0, none⟩ = some (.int .i64 m.frm) := (BM.out.below HC.out).cell 0 rfl
         have ff5 : wn.cell? ⟨y3.heap.size, 1, none⟩ = some (.int .i64 m.value) := (BM.out.below HC.out).cell 1 rfl
         have ff6 : wn.cell? ⟨y3.heap.size, 2, none⟩ = some (.int .i64 m.eff.base) := (BM.out.below HC.out).cell 2 rfl
         have ff7 : wn.cell? ⟨y3.heap.size, 3, none⟩ = some (.slice Am0 nm0 cm0) := (BM.out.below HC.out).cell 3 rfl
         have ff8 : wn.cell? ⟨y3.heap.size, 4, none⟩ = some (.int .i64 m.terms.taint.base) := (BM.out.below HC.out).cell 4 rfl
         have ff9 : wn.cell? ⟨y3.heap.size, 5, none⟩ = some (.slice Am1 nm1 cm1) := (BM.out.below HC.out).cell 5 rfl
         have ff10 : wn.cell? ⟨y3.heap.size, 6, none⟩ = some (.int .i64 m.terms.clear.base) := (BM.out.below HC.out).cell 6 rfl
         have ff11 : wn.cell? ⟨y3.heap.size, 7, none⟩ = some (.slice Am2 nm2 cm2) := (BM.out.below HC.out).cell 7 rfl
         have ff12 : wn.cell? ⟨y3.heap.size, 8, none⟩ = some (.int .i64 m.terms.raise.base) := (BM.out.below HC.out).cell 8 rfl
         have ff13 : wn.cell? ⟨y3.heap.size, 9, none⟩ = some (.slice Am3 nm3 cm3) := (BM.out.below HC.out).cell 9 rfl
         have ff14 : wn.cell? ⟨y3.heap.size, 10, none⟩ = some (.int .i64 m.terms.verify.base) := (BM.out.below HC.out).cell 10 rfl
         have ff15 : wn.cell? ⟨y3.heap.size, 11, none⟩ = some (.slice Am4 nm4 cm4) := (BM.out.below HC.out).cell 11 rfl
         have ff16 : wn.cell? ⟨y5.heap.size, 0, none⟩ = some (.int .i64 (openD h).handle) := (BO.out.below HC.out).cell 0 rfl
         have ff17 : wn.cell? ⟨y5.heap.size, 1, none⟩ = some (.int .i64 (openD h).label.base) := (BO.out.below HC.out).cell 1 rfl
         have ff18 : wn.cell? ⟨y5.heap.size, 2, none⟩ = some (.slice Ao0 no0 co0) := (BO.out.below HC.out).cell 2 rfl
         have ff19 : wn.cell? ⟨y5.heap.size, 3, none⟩ = some (.slice Ao1 no1 co1) := (BO.out.below HC.out).cell 3 rfl
         have ff20 : wn.cell? ⟨y7.heap.size, 0, none⟩ = some (.int .i64 (shutD h).handle) := (BS.out.below HC.out).cell 0 rfl
         have ff21 : wn.cell? ⟨y7.heap.size, 1, none⟩ = some (.int .i64 (shutD h).label.base) := (BS.out.below HC.out).cell 1 rfl
         have ff22 : wn.cell? ⟨y7.heap.size, 2, none⟩ = some (.slice As0 ns0 cs0) := (BS.out.below HC.out).cell 2 rfl
         have ff23 : wn.cell? ⟨y7.heap.size, 3, none⟩ = some (.slice As1 ns1 cs1) := (BS.out.below HC.out).cell 3 rfl
         skip
         clear hb)
      | (go_at_call_of 12 (Value.agg #[Value.int IntKind.i64 (shutD h).handle, Value.int IntKind.i64 (shutD h).label.base, Value.slice As0 ns0 cs0, Value.slice As1 ns1 cs1])
         refine (likeD_door (us := [.int .i64 (shutD h).handle, .int .i64 (shutD h).label.base, .slice As0 ns0 cs0, .slice As1 ns1 cs1]) (by first | exact RS.out.below HC.out | exact (RS.out.below HC.out).below (Below.refl _ _).drew) PS.out hfs).mono ?_
         rintro e wn ⟨rfl, hb⟩
         have HC' : Hid (Below x8.heap.size x8 wn) := Lib.hid (by first | exact below_more HC.out hb | exact below_more HC.out (below_undrew hb))
         clear HC
         have HC := HC'
         clear HC'
         try clear ff0 ff1 ff2 ff3 ff4 ff5 ff6 ff7 ff8 ff9 ff10 ff11 ff12 ff13 ff14 ff15 ff16 ff17 ff18 ff19 ff20 ff21 ff22 ff23
         have ff0 : wn.cell? ⟨y0.heap.size, 0, none⟩ = some (.int .i64 d.handle) := (BD.out.below HC.out).cell 0 rfl
         have ff1 : wn.cell? ⟨y0.heap.size, 1, none⟩ = some (.int .i64 d.label.base) := (BD.out.below HC.out).cell 1 rfl
         have ff2 : wn.cell? ⟨y0.heap.size, 2, none⟩ = some (.slice Ad0 nd0 cd0) := (BD.out.below HC.out).cell 2 rfl
         have ff3 : wn.cell? ⟨y0.heap.size, 3, none⟩ = some (.slice Ad1 nd1 cd1) := (BD.out.below HC.out).cell 3 rfl
         have ff4 : wn.cell? ⟨y3.heap.size, 0, none⟩ = some (.int .i64 m.frm) := (BM.out.below HC.out).cell 0 rfl
         have ff5 : wn.cell? ⟨y3.heap.size, 1, none⟩ = some (.int .i64 m.value) := (BM.out.below HC.out).cell 1 rfl
         have ff6 : wn.cell? ⟨y3.heap.size, 2, none⟩ = some (.int .i64 m.eff.base) := (BM.out.below HC.out).cell 2 rfl
         have ff7 : wn.cell? ⟨y3.heap.size, 3, none⟩ = some (.slice Am0 nm0 cm0) := (BM.out.below HC.out).cell 3 rfl
         have ff8 : wn.cell? ⟨y3.heap.size, 4, none⟩ = some (.int .i64 m.terms.taint.base) := (BM.out.below HC.out).cell 4 rfl
         have ff9 : wn.cell? ⟨y3.heap.size, 5, none⟩ = some (.slice Am1 nm1 cm1) := (BM.out.below HC.out).cell 5 rfl
         have ff10 : wn.cell? ⟨y3.heap.size, 6, none⟩ = some (.int .i64 m.terms.clear.base) := (BM.out.below HC.out).cell 6 rfl
         have ff11 : wn.cell? ⟨y3.heap.size, 7, none⟩ = some (.slice Am2 nm2 cm2) := (BM.out.below HC.out).cell 7 rfl
         have ff12 : wn.cell? ⟨y3.heap.size, 8, none⟩ = some (.int .i64 m.terms.raise.base) := (BM.out.below HC.out).cell 8 rfl
         have ff13 : wn.cell? ⟨y3.heap.size, 9, none⟩ = some (.slice Am3 nm3 cm3) := (BM.out.below HC.out).cell 9 rfl
         have ff14 : wn.cell? ⟨y3.heap.size, 10, none⟩ = some (.int .i64 m.terms.verify.base) := (BM.out.below HC.out).cell 10 rfl
         have ff15 : wn.cell? ⟨y3.heap.size, 11, none⟩ = some (.slice Am4 nm4 cm4) := (BM.out.below HC.out).cell 11 rfl
         have ff16 : wn.cell? ⟨y5.heap.size, 0, none⟩ = some (.int .i64 (openD h).handle) := (BO.out.below HC.out).cell 0 rfl
         have ff17 : wn.cell? ⟨y5.heap.size, 1, none⟩ = some (.int .i64 (openD h).label.base) := (BO.out.below HC.out).cell 1 rfl
         have ff18 : wn.cell? ⟨y5.heap.size, 2, none⟩ = some (.slice Ao0 no0 co0) := (BO.out.below HC.out).cell 2 rfl
         have ff19 : wn.cell? ⟨y5.heap.size, 3, none⟩ = some (.slice Ao1 no1 co1) := (BO.out.below HC.out).cell 3 rfl
         have ff20 : wn.cell? ⟨y7.heap.size, 0, none⟩ = some (.int .i64 (shutD h).handle) := (BS.out.below HC.out).cell 0 rfl
         have ff21 : wn.cell? ⟨y7.heap.size, 1, none⟩ = some (.int .i64 (shutD h).label.base) := (BS.out.below HC.out).cell 1 rfl
         have ff22 : wn.cell? ⟨y7.heap.size, 2, none⟩ = some (.slice As0 ns0 cs0) := (BS.out.below HC.out).cell 2 rfl
         have ff23 : wn.cell? ⟨y7.heap.size, 3, none⟩ = some (.slice As1 ns1 cs1) := (BS.out.below HC.out).cell 3 rfl
         skip
         clear hb)
      | (go_at_call 15
         refine (implD_msgok (us := [.int .i64 m.frm, .int .i64 m.value, .int .i64 m.eff.base, .slice Am0 nm0 cm0, .int .i64 m.terms.taint.base, .slice Am1 nm1 cm1, .int .i64 m.terms.clear.base, .slice Am2 nm2 cm2, .int .i64 m.terms.raise.base, .slice Am3 nm3 cm3, .int .i64 m.terms.verify.base, .slice Am4 nm4 cm4]) (by first | exact RM.out.below HC.out | exact (RM.out.below HC.out).below (Below.refl _ _).drew) (by omega)).mono ?_
         rintro e wn ⟨rfl, hb⟩
         have HC' : Hid (Below x8.heap.size x8 wn) := Lib.hid (by first | exact below_more HC.out hb | exact below_more HC.out (below_undrew hb))
         clear HC
         have HC := HC'
         clear HC'
         try clear ff0 ff1 ff2 ff3 ff4 ff5 ff6 ff7 ff8 ff9 ff10 ff11 ff12 ff13 ff14 ff15 ff16 ff17 ff18 ff19 ff20 ff21 ff22 ff23
         have ff0 : wn.cell? ⟨y0.heap.size, 0, none⟩ = some (.int .i64 d.handle) := (BD.out.below HC.out).cell 0 rfl
         have ff1 : wn.cell? ⟨y0.heap.size, 1, none⟩ = some (.int .i64 d.label.base) := (BD.out.below HC.out).cell 1 rfl
         have ff2 : wn.cell? ⟨y0.heap.size, 2, none⟩ = some (.slice Ad0 nd0 cd0) := (BD.out.below HC.out).cell 2 rfl
         have ff3 : wn.cell? ⟨y0.heap.size, 3, none⟩ = some (.slice Ad1 nd1 cd1) := (BD.out.below HC.out).cell 3 rfl
         have ff4 : wn.cell? ⟨y3.heap.size, 0, none⟩ = some (.int .i64 m.frm) := (BM.out.below HC.out).cell 0 rfl
         have ff5 : wn.cell? ⟨y3.heap.size, 1, none⟩ = some (.int .i64 m.value) := (BM.out.below HC.out).cell 1 rfl
         have ff6 : wn.cell? ⟨y3.heap.size, 2, none⟩ = some (.int .i64 m.eff.base) := (BM.out.below HC.out).cell 2 rfl
         have ff7 : wn.cell? ⟨y3.heap.size, 3, none⟩ = some (.slice Am0 nm0 cm0) := (BM.out.below HC.out).cell 3 rfl
         have ff8 : wn.cell? ⟨y3.heap.size, 4, none⟩ = some (.int .i64 m.terms.taint.base) := (BM.out.below HC.out).cell 4 rfl
         have ff9 : wn.cell? ⟨y3.heap.size, 5, none⟩ = some (.slice Am1 nm1 cm1) := (BM.out.below HC.out).cell 5 rfl
         have ff10 : wn.cell? ⟨y3.heap.size, 6, none⟩ = some (.int .i64 m.terms.clear.base) := (BM.out.below HC.out).cell 6 rfl
         have ff11 : wn.cell? ⟨y3.heap.size, 7, none⟩ = some (.slice Am2 nm2 cm2) := (BM.out.below HC.out).cell 7 rfl
         have ff12 : wn.cell? ⟨y3.heap.size, 8, none⟩ = some (.int .i64 m.terms.raise.base) := (BM.out.below HC.out).cell 8 rfl
         have ff13 : wn.cell? ⟨y3.heap.size, 9, none⟩ = some (.slice Am3 nm3 cm3) := (BM.out.below HC.out).cell 9 rfl
         have ff14 : wn.cell? ⟨y3.heap.size, 10, none⟩ = some (.int .i64 m.terms.verify.base) := (BM.out.below HC.out).cell 10 rfl
         have ff15 : wn.cell? ⟨y3.heap.size, 11, none⟩ = some (.slice Am4 nm4 cm4) := (BM.out.below HC.out).cell 11 rfl
         have ff16 : wn.cell? ⟨y5.heap.size, 0, none⟩ = some (.int .i64 (openD h).handle) := (BO.out.below HC.out).cell 0 rfl
         have ff17 : wn.cell? ⟨y5.heap.size, 1, none⟩ = some (.int .i64 (openD h).label.base) := (BO.out.below HC.out).cell 1 rfl
         have ff18 : wn.cell? ⟨y5.heap.size, 2, none⟩ = some (.slice Ao0 no0 co0) := (BO.out.below HC.out).cell 2 rfl
         have ff19 : wn.cell? ⟨y5.heap.size, 3, none⟩ = some (.slice Ao1 no1 co1) := (BO.out.below HC.out).cell 3 rfl
         have ff20 : wn.cell? ⟨y7.heap.size, 0, none⟩ = some (.int .i64 (shutD h).handle) := (BS.out.below HC.out).cell 0 rfl
         have ff21 : wn.cell? ⟨y7.heap.size, 1, none⟩ = some (.int .i64 (shutD h).label.base) := (BS.out.below HC.out).cell 1 rfl
         have ff22 : wn.cell? ⟨y7.heap.size, 2, none⟩ = some (.slice As0 ns0 cs0) := (BS.out.below HC.out).cell 2 rfl
         have ff23 : wn.cell? ⟨y7.heap.size, 3, none⟩ = some (.slice As1 ns1 cs1) := (BS.out.below HC.out).cell 3 rfl
         skip
         clear hb)
      | (go_at_call 16
         refine (specD_msgok (us := [.int .i64 m.frm, .int .i64 m.value, .int .i64 m.eff.base, .slice Am0 nm0 cm0, .int .i64 m.terms.taint.base, .slice Am1 nm1 cm1, .int .i64 m.terms.clear.base, .slice Am2 nm2 cm2, .int .i64 m.terms.raise.base, .slice Am3 nm3 cm3, .int .i64 m.terms.verify.base, .slice Am4 nm4 cm4]) (by first | exact RM.out.below HC.out | exact (RM.out.below HC.out).below (Below.refl _ _).drew) (by omega)).mono ?_
         rintro e wn ⟨rfl, hb⟩
         have HC' : Hid (Below x8.heap.size x8 wn) := Lib.hid (by first | exact below_more HC.out hb | exact below_more HC.out (below_undrew hb))
         clear HC
         have HC := HC'
         clear HC'
         try clear ff0 ff1 ff2 ff3 ff4 ff5 ff6 ff7 ff8 ff9 ff10 ff11 ff12 ff13 ff14 ff15 ff16 ff17 ff18 ff19 ff20 ff21 ff22 ff23
         have ff0 : wn.cell? ⟨y0.heap.size, 0, none⟩ = some (.int .i64 d.handle) := (BD.out.below HC.out).cell 0 rfl
         have ff1 : wn.cell? ⟨y0.heap.size, 1, none⟩ = some (.int .i64 d.label.base) := (BD.out.below HC.out).cell 1 rfl
         have ff2 : wn.cell? ⟨y0.heap.size, 2, none⟩ = some (.slice Ad0 nd0 cd0) := (BD.out.below HC.out).cell 2 rfl
         have ff3 : wn.cell? ⟨y0.heap.size, 3, none⟩ = some (.slice Ad1 nd1 cd1) := (BD.out.below HC.out).cell 3 rfl
         have ff4 : wn.cell? ⟨y3.heap.size, 0, none⟩ = some (.int .i64 m.frm) := (BM.out.below HC.out).cell 0 rfl
         have ff5 : wn.cell? ⟨y3.heap.size, 1, none⟩ = some (.int .i64 m.value) := (BM.out.below HC.out).cell 1 rfl
         have ff6 : wn.cell? ⟨y3.heap.size, 2, none⟩ = some (.int .i64 m.eff.base) := (BM.out.below HC.out).cell 2 rfl
         have ff7 : wn.cell? ⟨y3.heap.size, 3, none⟩ = some (.slice Am0 nm0 cm0) := (BM.out.below HC.out).cell 3 rfl
         have ff8 : wn.cell? ⟨y3.heap.size, 4, none⟩ = some (.int .i64 m.terms.taint.base) := (BM.out.below HC.out).cell 4 rfl
         have ff9 : wn.cell? ⟨y3.heap.size, 5, none⟩ = some (.slice Am1 nm1 cm1) := (BM.out.below HC.out).cell 5 rfl
         have ff10 : wn.cell? ⟨y3.heap.size, 6, none⟩ = some (.int .i64 m.terms.clear.base) := (BM.out.below HC.out).cell 6 rfl
         have ff11 : wn.cell? ⟨y3.heap.size, 7, none⟩ = some (.slice Am2 nm2 cm2) := (BM.out.below HC.out).cell 7 rfl
         have ff12 : wn.cell? ⟨y3.heap.size, 8, none⟩ = some (.int .i64 m.terms.raise.base) := (BM.out.below HC.out).cell 8 rfl
         have ff13 : wn.cell? ⟨y3.heap.size, 9, none⟩ = some (.slice Am3 nm3 cm3) := (BM.out.below HC.out).cell 9 rfl
         have ff14 : wn.cell? ⟨y3.heap.size, 10, none⟩ = some (.int .i64 m.terms.verify.base) := (BM.out.below HC.out).cell 10 rfl
         have ff15 : wn.cell? ⟨y3.heap.size, 11, none⟩ = some (.slice Am4 nm4 cm4) := (BM.out.below HC.out).cell 11 rfl
         have ff16 : wn.cell? ⟨y5.heap.size, 0, none⟩ = some (.int .i64 (openD h).handle) := (BO.out.below HC.out).cell 0 rfl
         have ff17 : wn.cell? ⟨y5.heap.size, 1, none⟩ = some (.int .i64 (openD h).label.base) := (BO.out.below HC.out).cell 1 rfl
         have ff18 : wn.cell? ⟨y5.heap.size, 2, none⟩ = some (.slice Ao0 no0 co0) := (BO.out.below HC.out).cell 2 rfl
         have ff19 : wn.cell? ⟨y5.heap.size, 3, none⟩ = some (.slice Ao1 no1 co1) := (BO.out.below HC.out).cell 3 rfl
         have ff20 : wn.cell? ⟨y7.heap.size, 0, none⟩ = some (.int .i64 (shutD h).handle) := (BS.out.below HC.out).cell 0 rfl
         have ff21 : wn.cell? ⟨y7.heap.size, 1, none⟩ = some (.int .i64 (shutD h).label.base) := (BS.out.below HC.out).cell 1 rfl
         have ff22 : wn.cell? ⟨y7.heap.size, 2, none⟩ = some (.slice As0 ns0 cs0) := (BS.out.below HC.out).cell 2 rfl
         have ff23 : wn.cell? ⟨y7.heap.size, 3, none⟩ = some (.slice As1 ns1 cs1) := (BS.out.below HC.out).cell 3 rfl
         skip
         clear hb))
    obtain ⟨y9, hwn⟩ : ∃ y9, y9 = wn := ⟨_, rfl⟩
    rw [← hwn] at HC ⊢
    have hb := HC.out
    clear HC hwn ff0 ff1 ff2 ff3 ff4 ff5 ff6 ff7 ff8 ff9 ff10 ff11 ff12 ff13 ff14 ff15 ff16 ff17 ff18 ff19 ff20 ff21 ff22 ff23
    clear BDk0 BDk1 BDk2 BDk3 BDkz BMk0 BMk1 BMk2 BMk3 BMk4 BMk5 BMk6 BMk7 BMk8 BMk9 BMk10 BMk11 BMkz BOk0 BOk1 BOk2 BOk3 BOkz BSk0 BSk1 BSk2 BSk3 BSkz
    have BD' := Lib.hid (BD.out.below hb)
    clear BD
    have BD := BD'
    clear BD'
    have BM' := Lib.hid (BM.out.below hb)
    clear BM
    have BM := BM'
    clear BM'
    have BO' := Lib.hid (BO.out.below hb)
    clear BO
    have BO := BO'
    clear BO'
    have BS' := Lib.hid (BS.out.below hb)
    clear BS
    have BS := BS'
    clear BS'
    have RD' := Lib.hid (RD.out.below hb)
    clear RD
    have RD := RD'
    clear RD'
    have RM' := Lib.hid (RM.out.below hb)
    clear RM
    have RM := RM'
    clear RM'
    have RO' := Lib.hid (RO.out.below hb)
    clear RO
    have RO := RO'
    clear RO'
    have RS' := Lib.hid (RS.out.below hb)
    clear RS
    have RS := RS'
    clear RS'
    have bel' : Below w.heap.size w y9 := below_more bel hb
    clear bel hb
    have bel := bel'
    clear bel'
    try clear PO
    try clear PS
    clear RD RM BD BM
    by_cases hm : makerOf h < 0
    · go_wp2_with (go_at_call 17; refine (spec_makerof _ _).mono ?_; rintro e w' ⟨rfl, rfl⟩)
      go_ret
      exact ⟨rfl, bel⟩
    have hok1 := open_ok hm
    have hok2 := shut_ok hm
    have ha1 := acc_open hm
    have ha2 := acc_shut hm
    have ha3 := acc_owner hm
    have RLO := Lib.hid (door_lab RO.out)
    have RLS := Lib.hid (door_lab RS.out)
    go_wp2_with (go_at_call 17; refine (spec_makerof _ _).mono ?_; rintro e w' ⟨rfl, rfl⟩)
    refine (spec_plain 2 _).mono ?_
    rintro e y10 ⟨vp, rfl, own, hb⟩
    have BO' := Lib.hid (BO.out.below hb)
    clear BO
    have BO := BO'
    clear BO'
    have BS' := Lib.hid (BS.out.below hb)
    clear BS
    have BS := BS'
    clear BS'
    have RO' := Lib.hid (RO.out.below hb)
    clear RO
    have RO := RO'
    clear RO'
    have RS' := Lib.hid (RS.out.below hb)
    clear RS
    have RS := RS'
    clear RS'
    have RLO' := Lib.hid (RLO.out.below hb)
    clear RLO
    have RLO := RLO'
    clear RLO'
    have RLS' := Lib.hid (RLS.out.below hb)
    clear RLS
    have RLS := RLS'
    clear RLS'
    have bel' : Below w.heap.size w y10 := below_more bel hb
    clear bel hb
    have bel := bel'
    clear bel'
    have RP := Lib.hid own.rd
    obtain ⟨Ap, np, cp, rfl, -, -, -⟩ := own
    go_wp2_with fail
    refine (spec_with _ (plainL 2) h 0 _ RP.out).mono ?_
    rintro e y11 ⟨vq, rfl, own, hb⟩
    have BO' := Lib.hid (BO.out.below hb)
    clear BO
    have BO := BO'
    clear BO'
    have BS' := Lib.hid (BS.out.below hb)
    clear BS
    have BS := BS'
    clear BS'
    have RO' := Lib.hid (RO.out.below hb)
    clear RO
    have RO := RO'
    clear RO'
    have RS' := Lib.hid (RS.out.below hb)
    clear RS
    have RS := RS'
    clear RS'
    have RLO' := Lib.hid (RLO.out.below hb)
    clear RLO
    have RLO := RLO'
    clear RLO'
    have RLS' := Lib.hid (RLS.out.below hb)
    clear RLS
    have RLS := RLS'
    clear RLS'
    have RP' := Lib.hid (RP.out.below hb)
    clear RP
    have RP := RP'
    clear RP'
    have bel' : Below w.heap.size w y11 := below_more bel hb
    clear bel hb
    have bel := bel'
    clear bel'
    have RQ := Lib.hid own.rd
    obtain ⟨Aq, nq, cq, rfl, -, -, -⟩ := own
    go_wp2_with fail
    generalize hW : y11.alloc (.cells #[.int .i64 (withLabel (plainL 2) h 0).1.base, .slice Aq nq cq] 26) = x12
    obtain ⟨nb0, hsz, hb⟩ := laid1 (ps := [.int .i64 (withLabel (plainL 2) h 0).1.base, .slice Aq nq cq]) hW
    have BO' := Lib.hid (BO.out.below hb)
    clear BO
    have BO := BO'
    clear BO'
    have BS' := Lib.hid (BS.out.below hb)
    clear BS
    have BS := BS'
    clear BS'
    have RO' := Lib.hid (RO.out.below hb)
    clear RO
    have RO := RO'
    clear RO'
    have RS' := Lib.hid (RS.out.below hb)
    clear RS
    have RS := RS'
    clear RS'
    have RLO' := Lib.hid (RLO.out.below hb)
    clear RLO
    have RLO := RLO'
    clear RLO'
    have RLS' := Lib.hid (RLS.out.below hb)
    clear RLS
    have RLS := RLS'
    clear RLS'
    have RP' := Lib.hid (RP.out.below hb)
    clear RP
    have RP := RP'
    clear RP'
    have RQ' := Lib.hid (RQ.out.below hb)
    clear RQ
    have RQ := RQ'
    clear RQ'
    have bel' : Below w.heap.size w x12 := below_more bel hb
    clear bel hb
    have bel := bel'
    clear bel'
    have BQ := Lib.hid nb0
    clear hW hsz nb0
    refine (spec_plain 3 _).mono ?_
    rintro e y13 ⟨vr, rfl, own, hb⟩
    have BO' := Lib.hid (BO.out.below hb)
    clear BO
    have BO := BO'
    clear BO'
    have BS' := Lib.hid (BS.out.below hb)
    clear BS
    have BS := BS'
    clear BS'
    have BQ' := Lib.hid (BQ.out.below hb)
    clear BQ
    have BQ := BQ'
    clear BQ'
    have RO' := Lib.hid (RO.out.below hb)
    clear RO
    have RO := RO'
    clear RO'
    have RS' := Lib.hid (RS.out.below hb)
    clear RS
    have RS := RS'
    clear RS'
    have RLO' := Lib.hid (RLO.out.below hb)
    clear RLO
    have RLO := RLO'
    clear RLO'
    have RLS' := Lib.hid (RLS.out.below hb)
    clear RLS
    have RLS := RLS'
    clear RLS'
    have RP' := Lib.hid (RP.out.below hb)
    clear RP
    have RP := RP'
    clear RP'
    have RQ' := Lib.hid (RQ.out.below hb)
    clear RQ
    have RQ := RQ'
    clear RQ'
    have bel' : Below w.heap.size w y13 := below_more bel hb
    clear bel hb
    have bel := bel'
    clear bel'
    have RR := Lib.hid own.rd
    obtain ⟨Ar, nr, cr, rfl, -, -, -⟩ := own
    go_upto_region 14 with fail
    generalize hW : y13.alloc (.cells #[.int .i64 (plainL 3).base, .slice Ar nr cr] 26) = x14
    obtain ⟨nb0, hsz, hb⟩ := laid1 (ps := [.int .i64 (plainL 3).base, .slice Ar nr cr]) hW
    have BO' := Lib.hid (BO.out.below hb)
    clear BO
    have BO := BO'
    clear BO'
    have BS' := Lib.hid (BS.out.below hb)
    clear BS
    have BS := BS'
    clear BS'
    have BQ' := Lib.hid (BQ.out.below hb)
    clear BQ
    have BQ := BQ'
    clear BQ'
    have RO' := Lib.hid (RO.out.below hb)
    clear RO
    have RO := RO'
    clear RO'
    have RS' := Lib.hid (RS.out.below hb)
    clear RS
    have RS := RS'
    clear RS'
    have RLO' := Lib.hid (RLO.out.below hb)
    clear RLO
    have RLO := RLO'
    clear RLO'
    have RLS' := Lib.hid (RLS.out.below hb)
    clear RLS
    have RLS := RLS'
    clear RLS'
    have RP' := Lib.hid (RP.out.below hb)
    clear RP
    have RP := RP'
    clear RP'
    have RQ' := Lib.hid (RQ.out.below hb)
    clear RQ
    have RQ := RQ'
    clear RQ'
    have RR' := Lib.hid (RR.out.below hb)
    clear RR
    have RR := RR'
    clear RR'
    have bel' : Below w.heap.size w x14 := below_more bel hb
    clear bel hb
    have bel := bel'
    clear bel'
    have BR := Lib.hid nb0
    clear hW hsz nb0
    have BOk0 := BO.out.cell 0 rfl
    have BOk1 := BO.out.cell 1 rfl
    have BOk2 := BO.out.cell 2 rfl
    have BOk3 := BO.out.cell 3 rfl
    have BOkz := BO.out.lt
    have BSk0 := BS.out.cell 0 rfl
    have BSk1 := BS.out.cell 1 rfl
    have BSk2 := BS.out.cell 2 rfl
    have BSk3 := BS.out.cell 3 rfl
    have BSkz := BS.out.lt
    have BQk0 := BQ.out.cell 0 rfl
    have BQk1 := BQ.out.cell 1 rfl
    have BQkz := BQ.out.lt
    have BRk0 := BR.out.cell 0 rfl
    have BRk1 := BR.out.cell 1 rfl
    have BRkz := BR.out.lt
    have HC := Lib.hid (Below.refl x14.heap.size x14)
    go_wp2
    go_region_held3 (fun w' => w'.cell? ⟨y5.heap.size, 0, none⟩ = some (.int .i64 (openD h).handle) ∧ w'.cell? ⟨y5.heap.size, 1, none⟩ = some (.int .i64 (openD h).label.base) ∧ w'.cell? ⟨y5.heap.size, 2, none⟩ = some (.slice Ao0 no0 co0) ∧ w'.cell? ⟨y5.heap.size, 3, none⟩ = some (.slice Ao1 no1 co1) ∧ w'.cell? ⟨y7.heap.size, 0, none⟩ = some (.int .i64 (shutD h).handle) ∧ w'.cell? ⟨y7.heap.size, 1, none⟩ = some (.int .i64 (shutD h).label.base) ∧ w'.cell? ⟨y7.heap.size, 2, none⟩ = some (.slice As0 ns0 cs0) ∧ w'.cell? ⟨y7.heap.size, 3, none⟩ = some (.slice As1 ns1 cs1) ∧ w'.cell? ⟨y11.heap.size, 0, none⟩ = some (.int .i64 (withLabel (plainL 2) h 0).1.base) ∧ w'.cell? ⟨y11.heap.size, 1, none⟩ = some (.slice Aq nq cq) ∧ w'.cell? ⟨y13.heap.size, 0, none⟩ = some (.int .i64 (plainL 3).base) ∧ w'.cell? ⟨y13.heap.size, 1, none⟩ = some (.slice Ar nr cr))
      (first | exact ⟨ff0, ff1, ff2, ff3, ff4, ff5, ff6, ff7, ff8, ff9, ff10, ff11⟩ | go_keep)
      (first
      | (go_at_call_of 10 (Value.agg #[Value.int IntKind.i64 (openD h).handle, Value.int IntKind.i64 (openD h).label.base, Value.slice Ao0 no0 co0, Value.slice Ao1 no1 co1])
         refine (implD_doorok (us := [.int .i64 (openD h).handle, .int .i64 (openD h).label.base, .slice Ao0 no0 co0, .slice Ao1 no1 co1]) (by first | exact RO.out.below HC.out | exact (RO.out.below HC.out).below (Below.refl _ _).drew) hfo (openD_wf h)).mono ?_
         rintro e wn ⟨rfl, hb⟩
         have HC' : Hid (Below x14.heap.size x14 wn) := Lib.hid (by first | exact below_more HC.out hb | exact below_more HC.out (below_undrew hb))
         clear HC
         have HC := HC'
         clear HC'
         try clear ff0 ff1 ff2 ff3 ff4 ff5 ff6 ff7 ff8 ff9 ff10 ff11
         have ff0 : wn.cell? ⟨y5.heap.size, 0, none⟩ = some (.int .i64 (openD h).handle) := (BO.out.below HC.out).cell 0 rfl
         have ff1 : wn.cell? ⟨y5.heap.size, 1, none⟩ = some (.int .i64 (openD h).label.base) := (BO.out.below HC.out).cell 1 rfl
         have ff2 : wn.cell? ⟨y5.heap.size, 2, none⟩ = some (.slice Ao0 no0 co0) := (BO.out.below HC.out).cell 2 rfl
         have ff3 : wn.cell? ⟨y5.heap.size, 3, none⟩ = some (.slice Ao1 no1 co1) := (BO.out.below HC.out).cell 3 rfl
         have ff4 : wn.cell? ⟨y7.heap.size, 0, none⟩ = some (.int .i64 (shutD h).handle) := (BS.out.below HC.out).cell 0 rfl
         have ff5 : wn.cell? ⟨y7.heap.size, 1, none⟩ = some (.int .i64 (shutD h).label.base) := (BS.out.below HC.out).cell 1 rfl
         have ff6 : wn.cell? ⟨y7.heap.size, 2, none⟩ = some (.slice As0 ns0 cs0) := (BS.out.below HC.out).cell 2 rfl
         have ff7 : wn.cell? ⟨y7.heap.size, 3, none⟩ = some (.slice As1 ns1 cs1) := (BS.out.below HC.out).cell 3 rfl
         have ff8 : wn.cell? ⟨y11.heap.size, 0, none⟩ = some (.int .i64 (withLabel (plainL 2) h 0).1.base) := (BQ.out.below HC.out).cell 0 rfl
         have ff9 : wn.cell? ⟨y11.heap.size, 1, none⟩ = some (.slice Aq nq cq) := (BQ.out.below HC.out).cell 1 rfl
         have ff10 : wn.cell? ⟨y13.heap.size, 0, none⟩ = some (.int .i64 (plainL 3).base) := (BR.out.below HC.out).cell 0 rfl
         have ff11 : wn.cell? ⟨y13.heap.size, 1, none⟩ = some (.slice Ar nr cr) := (BR.out.below HC.out).cell 1 rfl
         rw [hok1]
         clear hb)
      | (go_at_call_of 10 (Value.agg #[Value.int IntKind.i64 (shutD h).handle, Value.int IntKind.i64 (shutD h).label.base, Value.slice As0 ns0 cs0, Value.slice As1 ns1 cs1])
         refine (implD_doorok (us := [.int .i64 (shutD h).handle, .int .i64 (shutD h).label.base, .slice As0 ns0 cs0, .slice As1 ns1 cs1]) (by first | exact RS.out.below HC.out | exact (RS.out.below HC.out).below (Below.refl _ _).drew) hfs (shutD_wf h)).mono ?_
         rintro e wn ⟨rfl, hb⟩
         have HC' : Hid (Below x14.heap.size x14 wn) := Lib.hid (by first | exact below_more HC.out hb | exact below_more HC.out (below_undrew hb))
         clear HC
         have HC := HC'
         clear HC'
         try clear ff0 ff1 ff2 ff3 ff4 ff5 ff6 ff7 ff8 ff9 ff10 ff11
         have ff0 : wn.cell? ⟨y5.heap.size, 0, none⟩ = some (.int .i64 (openD h).handle) := (BO.out.below HC.out).cell 0 rfl
         have ff1 : wn.cell? ⟨y5.heap.size, 1, none⟩ = some (.int .i64 (openD h).label.base) := (BO.out.below HC.out).cell 1 rfl
         have ff2 : wn.cell? ⟨y5.heap.size, 2, none⟩ = some (.slice Ao0 no0 co0) := (BO.out.below HC.out).cell 2 rfl
         have ff3 : wn.cell? ⟨y5.heap.size, 3, none⟩ = some (.slice Ao1 no1 co1) := (BO.out.below HC.out).cell 3 rfl
         have ff4 : wn.cell? ⟨y7.heap.size, 0, none⟩ = some (.int .i64 (shutD h).handle) := (BS.out.below HC.out).cell 0 rfl
         have ff5 : wn.cell? ⟨y7.heap.size, 1, none⟩ = some (.int .i64 (shutD h).label.base) := (BS.out.below HC.out).cell 1 rfl
         have ff6 : wn.cell? ⟨y7.heap.size, 2, none⟩ = some (.slice As0 ns0 cs0) := (BS.out.below HC.out).cell 2 rfl
         have ff7 : wn.cell? ⟨y7.heap.size, 3, none⟩ = some (.slice As1 ns1 cs1) := (BS.out.below HC.out).cell 3 rfl
         have ff8 : wn.cell? ⟨y11.heap.size, 0, none⟩ = some (.int .i64 (withLabel (plainL 2) h 0).1.base) := (BQ.out.below HC.out).cell 0 rfl
         have ff9 : wn.cell? ⟨y11.heap.size, 1, none⟩ = some (.slice Aq nq cq) := (BQ.out.below HC.out).cell 1 rfl
         have ff10 : wn.cell? ⟨y13.heap.size, 0, none⟩ = some (.int .i64 (plainL 3).base) := (BR.out.below HC.out).cell 0 rfl
         have ff11 : wn.cell? ⟨y13.heap.size, 1, none⟩ = some (.slice Ar nr cr) := (BR.out.below HC.out).cell 1 rfl
         rw [hok2]
         clear hb)
      | (go_at_call 19
         refine (spec_plain 2 _).mono ?_
         rintro e wn ⟨vv, rfl, own, hb⟩
         have HC' : Hid (Below x14.heap.size x14 wn) := Lib.hid (by first | exact below_more HC.out hb | exact below_more HC.out (below_undrew hb))
         clear HC
         have HC := HC'
         clear HC'
         try clear ff0 ff1 ff2 ff3 ff4 ff5 ff6 ff7 ff8 ff9 ff10 ff11
         have ff0 : wn.cell? ⟨y5.heap.size, 0, none⟩ = some (.int .i64 (openD h).handle) := (BO.out.below HC.out).cell 0 rfl
         have ff1 : wn.cell? ⟨y5.heap.size, 1, none⟩ = some (.int .i64 (openD h).label.base) := (BO.out.below HC.out).cell 1 rfl
         have ff2 : wn.cell? ⟨y5.heap.size, 2, none⟩ = some (.slice Ao0 no0 co0) := (BO.out.below HC.out).cell 2 rfl
         have ff3 : wn.cell? ⟨y5.heap.size, 3, none⟩ = some (.slice Ao1 no1 co1) := (BO.out.below HC.out).cell 3 rfl
         have ff4 : wn.cell? ⟨y7.heap.size, 0, none⟩ = some (.int .i64 (shutD h).handle) := (BS.out.below HC.out).cell 0 rfl
         have ff5 : wn.cell? ⟨y7.heap.size, 1, none⟩ = some (.int .i64 (shutD h).label.base) := (BS.out.below HC.out).cell 1 rfl
         have ff6 : wn.cell? ⟨y7.heap.size, 2, none⟩ = some (.slice As0 ns0 cs0) := (BS.out.below HC.out).cell 2 rfl
         have ff7 : wn.cell? ⟨y7.heap.size, 3, none⟩ = some (.slice As1 ns1 cs1) := (BS.out.below HC.out).cell 3 rfl
         have ff8 : wn.cell? ⟨y11.heap.size, 0, none⟩ = some (.int .i64 (withLabel (plainL 2) h 0).1.base) := (BQ.out.below HC.out).cell 0 rfl
         have ff9 : wn.cell? ⟨y11.heap.size, 1, none⟩ = some (.slice Aq nq cq) := (BQ.out.below HC.out).cell 1 rfl
         have ff10 : wn.cell? ⟨y13.heap.size, 0, none⟩ = some (.int .i64 (plainL 3).base) := (BR.out.below HC.out).cell 0 rfl
         have ff11 : wn.cell? ⟨y13.heap.size, 1, none⟩ = some (.slice Ar nr cr) := (BR.out.below HC.out).cell 1 rfl
         try (have N1' := Lib.hid (N1.out.below (by first | exact hb | exact below_undrew hb))
              clear N1
              have N1 := N1'
              clear N1')
         have L1 := Lib.hid own.rd
         obtain ⟨Al, nl, cl, rfl, -, -, -⟩ := own
         clear hb)
      | (go_at_call 21
         refine (impl_noterms _).mono ?_
         rintro e wn ⟨vv, rfl, own, hb⟩
         have HC' : Hid (Below x14.heap.size x14 wn) := Lib.hid (by first | exact below_more HC.out hb | exact below_more HC.out (below_undrew hb))
         clear HC
         have HC := HC'
         clear HC'
         try clear ff0 ff1 ff2 ff3 ff4 ff5 ff6 ff7 ff8 ff9 ff10 ff11
         have ff0 : wn.cell? ⟨y5.heap.size, 0, none⟩ = some (.int .i64 (openD h).handle) := (BO.out.below HC.out).cell 0 rfl
         have ff1 : wn.cell? ⟨y5.heap.size, 1, none⟩ = some (.int .i64 (openD h).label.base) := (BO.out.below HC.out).cell 1 rfl
         have ff2 : wn.cell? ⟨y5.heap.size, 2, none⟩ = some (.slice Ao0 no0 co0) := (BO.out.below HC.out).cell 2 rfl
         have ff3 : wn.cell? ⟨y5.heap.size, 3, none⟩ = some (.slice Ao1 no1 co1) := (BO.out.below HC.out).cell 3 rfl
         have ff4 : wn.cell? ⟨y7.heap.size, 0, none⟩ = some (.int .i64 (shutD h).handle) := (BS.out.below HC.out).cell 0 rfl
         have ff5 : wn.cell? ⟨y7.heap.size, 1, none⟩ = some (.int .i64 (shutD h).label.base) := (BS.out.below HC.out).cell 1 rfl
         have ff6 : wn.cell? ⟨y7.heap.size, 2, none⟩ = some (.slice As0 ns0 cs0) := (BS.out.below HC.out).cell 2 rfl
         have ff7 : wn.cell? ⟨y7.heap.size, 3, none⟩ = some (.slice As1 ns1 cs1) := (BS.out.below HC.out).cell 3 rfl
         have ff8 : wn.cell? ⟨y11.heap.size, 0, none⟩ = some (.int .i64 (withLabel (plainL 2) h 0).1.base) := (BQ.out.below HC.out).cell 0 rfl
         have ff9 : wn.cell? ⟨y11.heap.size, 1, none⟩ = some (.slice Aq nq cq) := (BQ.out.below HC.out).cell 1 rfl
         have ff10 : wn.cell? ⟨y13.heap.size, 0, none⟩ = some (.int .i64 (plainL 3).base) := (BR.out.below HC.out).cell 0 rfl
         have ff11 : wn.cell? ⟨y13.heap.size, 1, none⟩ = some (.slice Ar nr cr) := (BR.out.below HC.out).cell 1 rfl
         try (have L1' := Lib.hid (L1.out.below (by first | exact hb | exact below_undrew hb))
              clear L1
              have L1 := L1'
              clear L1')
         have N1 := Lib.hid own.rd
         obtain ⟨_, _, _, _, _, _, _, _, _, _, _, _, rfl, -⟩ := own
         clear hb)
      | (go_at_call_of 20 (Value.agg #[Value.int IntKind.i64 (withLabel (plainL 2) h 0).1.base, Value.slice Aq nq cq])
         refine (impl_accepts _ _ _ _ (withLabel (plainL 2) h 0).1 (plainL 3) noTm (shutD h).label _ (by first | exact RQ.out.below HC.out | exact (RQ.out.below HC.out).below (Below.refl _ _).drew) (by first | exact RR.out.below HC.out | exact (RR.out.below HC.out).below (Below.refl _ _).drew) N1.out (by first | exact RLS.out.below HC.out | exact (RLS.out.below HC.out).below (Below.refl _ _).drew) (by first | exact hs.below (below_more bel HC.out) | exact (hs.below (below_more bel HC.out)).drew)).mono ?_
         rintro e wn ⟨rfl, hb⟩
         have HC' : Hid (Below x14.heap.size x14 wn) := Lib.hid (by first | exact below_more HC.out hb | exact below_more HC.out (below_undrew hb))
         clear HC
         have HC := HC'
         clear HC'
         try clear ff0 ff1 ff2 ff3 ff4 ff5 ff6 ff7 ff8 ff9 ff10 ff11
         have ff0 : wn.cell? ⟨y5.heap.size, 0, none⟩ = some (.int .i64 (openD h).handle) := (BO.out.below HC.out).cell 0 rfl
         have ff1 : wn.cell? ⟨y5.heap.size, 1, none⟩ = some (.int .i64 (openD h).label.base) := (BO.out.below HC.out).cell 1 rfl
         have ff2 : wn.cell? ⟨y5.heap.size, 2, none⟩ = some (.slice Ao0 no0 co0) := (BO.out.below HC.out).cell 2 rfl
         have ff3 : wn.cell? ⟨y5.heap.size, 3, none⟩ = some (.slice Ao1 no1 co1) := (BO.out.below HC.out).cell 3 rfl
         have ff4 : wn.cell? ⟨y7.heap.size, 0, none⟩ = some (.int .i64 (shutD h).handle) := (BS.out.below HC.out).cell 0 rfl
         have ff5 : wn.cell? ⟨y7.heap.size, 1, none⟩ = some (.int .i64 (shutD h).label.base) := (BS.out.below HC.out).cell 1 rfl
         have ff6 : wn.cell? ⟨y7.heap.size, 2, none⟩ = some (.slice As0 ns0 cs0) := (BS.out.below HC.out).cell 2 rfl
         have ff7 : wn.cell? ⟨y7.heap.size, 3, none⟩ = some (.slice As1 ns1 cs1) := (BS.out.below HC.out).cell 3 rfl
         have ff8 : wn.cell? ⟨y11.heap.size, 0, none⟩ = some (.int .i64 (withLabel (plainL 2) h 0).1.base) := (BQ.out.below HC.out).cell 0 rfl
         have ff9 : wn.cell? ⟨y11.heap.size, 1, none⟩ = some (.slice Aq nq cq) := (BQ.out.below HC.out).cell 1 rfl
         have ff10 : wn.cell? ⟨y13.heap.size, 0, none⟩ = some (.int .i64 (plainL 3).base) := (BR.out.below HC.out).cell 0 rfl
         have ff11 : wn.cell? ⟨y13.heap.size, 1, none⟩ = some (.slice Ar nr cr) := (BR.out.below HC.out).cell 1 rfl
         rw [ha3]
         clear hb)
      | (go_at_call 20
         refine (impl_accepts _ _ _ _ (plainL 2) (plainL 3) noTm (openD h).label _ L1.out (by first | exact RR.out.below HC.out | exact (RR.out.below HC.out).below (Below.refl _ _).drew) N1.out (by first | exact RLO.out.below HC.out | exact (RLO.out.below HC.out).below (Below.refl _ _).drew) (by first | exact hs.below (below_more bel HC.out) | exact (hs.below (below_more bel HC.out)).drew)).mono ?_
         rintro e wn ⟨rfl, hb⟩
         have HC' : Hid (Below x14.heap.size x14 wn) := Lib.hid (by first | exact below_more HC.out hb | exact below_more HC.out (below_undrew hb))
         clear HC
         have HC := HC'
         clear HC'
         try clear ff0 ff1 ff2 ff3 ff4 ff5 ff6 ff7 ff8 ff9 ff10 ff11
         have ff0 : wn.cell? ⟨y5.heap.size, 0, none⟩ = some (.int .i64 (openD h).handle) := (BO.out.below HC.out).cell 0 rfl
         have ff1 : wn.cell? ⟨y5.heap.size, 1, none⟩ = some (.int .i64 (openD h).label.base) := (BO.out.below HC.out).cell 1 rfl
         have ff2 : wn.cell? ⟨y5.heap.size, 2, none⟩ = some (.slice Ao0 no0 co0) := (BO.out.below HC.out).cell 2 rfl
         have ff3 : wn.cell? ⟨y5.heap.size, 3, none⟩ = some (.slice Ao1 no1 co1) := (BO.out.below HC.out).cell 3 rfl
         have ff4 : wn.cell? ⟨y7.heap.size, 0, none⟩ = some (.int .i64 (shutD h).handle) := (BS.out.below HC.out).cell 0 rfl
         have ff5 : wn.cell? ⟨y7.heap.size, 1, none⟩ = some (.int .i64 (shutD h).label.base) := (BS.out.below HC.out).cell 1 rfl
         have ff6 : wn.cell? ⟨y7.heap.size, 2, none⟩ = some (.slice As0 ns0 cs0) := (BS.out.below HC.out).cell 2 rfl
         have ff7 : wn.cell? ⟨y7.heap.size, 3, none⟩ = some (.slice As1 ns1 cs1) := (BS.out.below HC.out).cell 3 rfl
         have ff8 : wn.cell? ⟨y11.heap.size, 0, none⟩ = some (.int .i64 (withLabel (plainL 2) h 0).1.base) := (BQ.out.below HC.out).cell 0 rfl
         have ff9 : wn.cell? ⟨y11.heap.size, 1, none⟩ = some (.slice Aq nq cq) := (BQ.out.below HC.out).cell 1 rfl
         have ff10 : wn.cell? ⟨y13.heap.size, 0, none⟩ = some (.int .i64 (plainL 3).base) := (BR.out.below HC.out).cell 0 rfl
         have ff11 : wn.cell? ⟨y13.heap.size, 1, none⟩ = some (.slice Ar nr cr) := (BR.out.below HC.out).cell 1 rfl
         rw [ha1]
         clear L1 N1
         clear hb)
      | (go_at_call 20
         refine (impl_accepts _ _ _ _ (plainL 2) (plainL 3) noTm (shutD h).label _ L1.out (by first | exact RR.out.below HC.out | exact (RR.out.below HC.out).below (Below.refl _ _).drew) N1.out (by first | exact RLS.out.below HC.out | exact (RLS.out.below HC.out).below (Below.refl _ _).drew) (by first | exact hs.below (below_more bel HC.out) | exact (hs.below (below_more bel HC.out)).drew)).mono ?_
         rintro e wn ⟨rfl, hb⟩
         have HC' : Hid (Below x14.heap.size x14 wn) := Lib.hid (by first | exact below_more HC.out hb | exact below_more HC.out (below_undrew hb))
         clear HC
         have HC := HC'
         clear HC'
         try clear ff0 ff1 ff2 ff3 ff4 ff5 ff6 ff7 ff8 ff9 ff10 ff11
         have ff0 : wn.cell? ⟨y5.heap.size, 0, none⟩ = some (.int .i64 (openD h).handle) := (BO.out.below HC.out).cell 0 rfl
         have ff1 : wn.cell? ⟨y5.heap.size, 1, none⟩ = some (.int .i64 (openD h).label.base) := (BO.out.below HC.out).cell 1 rfl
         have ff2 : wn.cell? ⟨y5.heap.size, 2, none⟩ = some (.slice Ao0 no0 co0) := (BO.out.below HC.out).cell 2 rfl
         have ff3 : wn.cell? ⟨y5.heap.size, 3, none⟩ = some (.slice Ao1 no1 co1) := (BO.out.below HC.out).cell 3 rfl
         have ff4 : wn.cell? ⟨y7.heap.size, 0, none⟩ = some (.int .i64 (shutD h).handle) := (BS.out.below HC.out).cell 0 rfl
         have ff5 : wn.cell? ⟨y7.heap.size, 1, none⟩ = some (.int .i64 (shutD h).label.base) := (BS.out.below HC.out).cell 1 rfl
         have ff6 : wn.cell? ⟨y7.heap.size, 2, none⟩ = some (.slice As0 ns0 cs0) := (BS.out.below HC.out).cell 2 rfl
         have ff7 : wn.cell? ⟨y7.heap.size, 3, none⟩ = some (.slice As1 ns1 cs1) := (BS.out.below HC.out).cell 3 rfl
         have ff8 : wn.cell? ⟨y11.heap.size, 0, none⟩ = some (.int .i64 (withLabel (plainL 2) h 0).1.base) := (BQ.out.below HC.out).cell 0 rfl
         have ff9 : wn.cell? ⟨y11.heap.size, 1, none⟩ = some (.slice Aq nq cq) := (BQ.out.below HC.out).cell 1 rfl
         have ff10 : wn.cell? ⟨y13.heap.size, 0, none⟩ = some (.int .i64 (plainL 3).base) := (BR.out.below HC.out).cell 0 rfl
         have ff11 : wn.cell? ⟨y13.heap.size, 1, none⟩ = some (.slice Ar nr cr) := (BR.out.below HC.out).cell 1 rfl
         rw [ha2]
         clear L1 N1
         clear hb))
    obtain ⟨y15, hwn⟩ : ∃ y15, y15 = wn := ⟨_, rfl⟩
    rw [← hwn] at HC ⊢
    have hb := HC.out
    clear HC hwn ff0 ff1 ff2 ff3 ff4 ff5 ff6 ff7 ff8 ff9 ff10 ff11
    clear BOk0 BOk1 BOk2 BOk3 BOkz BSk0 BSk1 BSk2 BSk3 BSkz BQk0 BQk1 BQkz BRk0 BRk1 BRkz
    have BO' := Lib.hid (BO.out.below hb)
    clear BO
    have BO := BO'
    clear BO'
    have BS' := Lib.hid (BS.out.below hb)
    clear BS
    have BS := BS'
    clear BS'
    have BQ' := Lib.hid (BQ.out.below hb)
    clear BQ
    have BQ := BQ'
    clear BQ'
    have BR' := Lib.hid (BR.out.below hb)
    clear BR
    have BR := BR'
    clear BR'
    have RO' := Lib.hid (RO.out.below hb)
    clear RO
    have RO := RO'
    clear RO'
    have RS' := Lib.hid (RS.out.below hb)
    clear RS
    have RS := RS'
    clear RS'
    have RLO' := Lib.hid (RLO.out.below hb)
    clear RLO
    have RLO := RLO'
    clear RLO'
    have RLS' := Lib.hid (RLS.out.below hb)
    clear RLS
    have RLS := RLS'
    clear RLS'
    have RP' := Lib.hid (RP.out.below hb)
    clear RP
    have RP := RP'
    clear RP'
    have RQ' := Lib.hid (RQ.out.below hb)
    clear RQ
    have RQ := RQ'
    clear RQ'
    have RR' := Lib.hid (RR.out.below hb)
    clear RR
    have RR := RR'
    clear RR'
    have bel' : Below w.heap.size w y15 := below_more bel hb
    clear bel hb
    have bel := bel'
    clear bel'
    go_wp2
    go_ret
    exact ⟨rfl, bel⟩
  · go_enter Tryz.func3, Tryz.ntmps3
    go_wp2_with fail
    refine (big_yes a len cap _ (by omega)).mono ?_
    rintro e w1 ⟨rfl, rfl⟩
    go_wp2
    go_ret
    exact ⟨rfl, .refl _ _⟩

set_option maxRecDepth 100000 in
theorem lifted (os : Os) (started : os.Started) (H : Type) (enc : TypeId × Value → H) :
    ReturnsInHanded {} Tryz.checked os 3 .any (fun w args => (Rows.fnDoorsSpec.pre enc Tryz.prog Tryz.f3 [] false w args ∧ laidMetH Tryz.prog Rows.fnDoorsRow.laid w) ∧ sizedMet enc Tryz.prog Tryz.f3 (OpenSpec.ofChange Rows.fnDoorsSpec) false w args)
      (Rows.fnDoorsSpec.post enc Tryz.prog Tryz.f3 false true false false) := by
  refine returnsInHanded_of_change_and (C := Tryz.checked) (X := fun w _ => laidMetH Tryz.prog Rows.fnDoorsRow.laid w) (fun _ _ _ hh h => h.of_heap hh) own started (by kernel_rfl) Tryz.func3
    (ChangeSpec.witness_shaped (enc := enc) (C := Tryz.checked) (os := os) (X := fun w _ => laidMetH Tryz.prog Rows.fnDoorsRow.laid w) false (World.doorLaid Tryz.prog 4000 os) #[.slice none 0 0] 8 rfl (World.shaped_of_RefB (by kernel_rfl) (by kernel_rfl)) (by kernel_rfl) (by kernel_rfl) (by kernel_rfl) (laidMetH_of_parts3 (fuel := 8) (laidMet_of_run' 8 (by kernel_rfl) (by kernel_rfl)) (by kernel_rfl) (by kernel_rfl))) ?_
  intro W base args ds gs before hval0 hW _ _ hL _
  have hval : ∀ (j : Nat) t v, Tryz.f3.params[j]? = some t → args[j]? = some v → Value.okWide Tryz.prog W .any base t v := hval0
  have hW' := hW
  obtain ⟨p, q, hA0, hV, rfl, hfz, hnd⟩ := hW
  have hA : DataW.TrodAll enc Tryz.prog W 0 (fun _ => true) true Tryz.f3.params.toList args.toList ds p := hA0
  rw [Tryz.params3] at hA hval
  obtain ⟨v0, vs0, d0, ds0, p0, q0, hargs, rfl, rfl, h0, r0⟩ := trodAll_cons hA
  obtain ⟨rfl, rfl, rfl⟩ := trodAll_nil r0
  obtain rfl : args = #[v0] := by cases args; simp_all
  obtain ⟨a9, c9, va, vc, hs⟩ := sent_high hL
  have vr : ∀ {X : World}, X.var? Tryz.prog "loop.example/g00805/impl.errTooHigh" = some #[.iface 149 (.pointer (some c9))] → X.var? Tryz.prog "loop.example/g00805/impl.errNotRight" = some #[.iface 149 (.pointer (some a9))] → ∀ sp : Nat → Bool, DataW.TrodVars enc Tryz.prog X sp ["loop.example/g00805/impl.errTooHigh", "loop.example/g00805/impl.errNotRight"] [tok enc (.iface 149 (.pointer (some c9))), tok enc (.iface 149 (.pointer (some a9)))] [.cell 1 0, .cell 0 0] :=
    fun yvc yva sp => vars_read2 enc gn_errTooHigh gt_errTooHigh Tryz.underlying65 yvc trivial gn_errNotRight gt_errNotRight Tryz.underlying65 yva trivial sp
  have hV' : DataW.TrodVars enc Tryz.prog W (fun _ => true) ["loop.example/g00805/impl.errTooHigh", "loop.example/g00805/impl.errNotRight"] gs q := hV
  obtain ⟨rfl, rfl⟩ := hV'.unique (vr vc va _)
  have k0 := h0
  have lt0 : ∀ x ∈ p0, x.block < W.heap.size := by obtain ⟨m, hm⟩ := k0; exact DataW.trod_lt m _ _ _ hm
  obtain ⟨a0, len0, cap0, rfl, z0, w0⟩ := open_bytes (hval 0 22 v0 rfl rfl) h0
  clear hA0 hval0
  refine (walk a0 len0 cap0 z0 w0 hs (w := W)).mono fun e W' ⟨he, bel⟩ => ?_
  subst he
  exact ⟨_, rfl, _, _, _, [], _, _, hW', (trodAll_cons_mk (shut_bool Tryz.underlying4 _) trodAll_mk0), (trodAll_cons_mk (Below.trod laidOut (by kernel_rfl) (of_decide_eq_true (by kernel_rfl)) k0 bel lt0) trodAll_mk0), vr (var_below vc bel) (var_below va bel) _, bel.frame _, fun h => by cases h⟩

theorem said : Rows.FnDoorsSaid :=
  OpenClaim.holds_of_wide 3 Tryz.f3 rfl rfl rfl rfl rfl rfl rfl ⟨rfl, rfl, rfl, rfl, rfl⟩ rfl rfl rfl rfl rfl (by kernel_rfl) Tryz.func3 (by kernel_rfl)
    (of_decide_eq_true (by kernel_rfl)) (by unfold Func.isWrapper; first | (rw [if_pos (by decide +kernel)]; kernel_rfl) | (rw [if_neg (by decide +kernel)]; exact ⟨rfl, rfl⟩))
    (fun os started H enc _ => lifted os started H enc)

theorem plain (f : FuncId) (fn : Func) (hf : Tryz.pinned.checked.prog.funcNamed Rows.fnDoorsRow.func = some f) (hfn : Tryz.pinned.checked.prog.funcs[f]? = some fn) :
    true = Tryz.pinned.checked.prog.looks [] ∧ ∀ (j : Nat) t, fn.params[j]? = some t → Tryz.pinned.checked.prog.wantsStandIn t = false := by
  obtain rfl : f = 3 := Option.some.inj ((show Tryz.prog.funcNamed Rows.fnDoorsRow.func = some 3 by kernel_rfl).symm.trans hf) |>.symm
  obtain rfl : fn = Tryz.f3 := (Option.some.inj (Tryz.func3.symm.trans hfn)).symm
  refine ⟨by kernel_rfl, fun j t ht => ?_⟩
  rw [Tryz.params3] at ht
  have hm : t ∈ [22] := by simpa using Array.mem_of_getElem? ht
  have hall : ([22].all fun u => !Tryz.prog.wantsStandIn u) = true := by kernel_rfl
  exact (show Tryz.prog.wantsStandIn t = false by simpa using List.all_eq_true.1 hall t hm)

theorem proved : Rows.FnDoorsCardSaid :=
  Claim7.holds_tied_plain_at .later [] _ _ _ _ said (fun _ h => by cases h) (by kernel_rfl) (fun _ h => by cases h) fnDoors_row_tie rfl ⟨rfl, rfl⟩ (by kernel_rfl) rfl plain (by kernel_rfl)
#print axioms proved
end Go.Proofs.YtnpeojlhjbdjiaaGreatDoor.fnDoors
