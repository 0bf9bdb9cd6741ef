/-
  Texts put together: SpecMsg, SpecDoor. What each proves stands ahead of it.
-/
import Derived.Test.YtnpeojlhjbdjiaaGreatDoorDHelp
import Derived.Test.YtnpeojlhjbdjiaaGreatDoorDoorPure
import Derived.Test.YtnpeojlhjbdjiaaGreatDoorHandle
import Derived.Test.YtnpeojlhjbdjiaaGreatDoorSpecTerms
import Derived.Test.YtnpeojlhjbdjiaaGreatDoorLate2
import Derived.Deep.RegionHeld3
/-
  Chapter 7 of the model: MsgOk, a share, DoorOk.
-/
namespace Go.Proofs.YtnpeojlhjbdjiaaGreatDoor
set_option maxRecDepth 100000
open Go.RowKit

theorem Rds.tm {w : World} {us : List Value} {t : Tm} (h : Rds w (dtTm t) us) (hf : tmSz t ≤ 1048576) : RdTm w (.agg us.toArray) t := by
  unfold tmSz at hf
  unfold dtTm at h
  obtain ⟨u0, us, rfl, h0, k0⟩ := h.split
  obtain ⟨A0, n0, c0, rfl⟩ := shp_lab h0
  obtain ⟨u1, us, rfl, h1, k1⟩ := k0.split
  obtain ⟨A1, n1, c1, rfl⟩ := shp_lab h1
  obtain ⟨u2, u3, rfl, h2, h3⟩ := k1.split
  obtain ⟨A2, n2, c2, rfl⟩ := shp_lab h2
  obtain ⟨A3, n3, c3, rfl⟩ := shp_lab h3
  exact ⟨A0, n0, c0, A1, n1, c1, A2, n2, c2, A3, n3, c3, rfl, h0.lab (by omega), h1.lab (by omega), h2.lab (by omega), h3.lab (by omega)⟩
theorem specD_termsok {us : List Value} {t : Tm} {w : World} (h : Rds w (dtTm t) us) (hf : tmSz t ≤ 1048576) : Calls Tryz.prog 40 #[.agg us.toArray] w (RetV (.bool (termsOk t)) w) := spec_termsok _ t w (h.tm hf)
theorem specD_labok {us : List Value} {l : Lab} {w : World} (h : Rds w (dtLab l) us) (hf : l.parts.length ≤ 1048576) : Calls Tryz.prog 32 #[.agg us.toArray] w (RetV (.bool (labOk l)) w) := spec_labok _ l w (h.lab hf)
theorem spec_value (x : Int) (w : World) : Calls Tryz.prog 39 #[.int .i64 x] w (RetS (.bool (inR x 0 999999)) w) := by
  go_enter Tryz.func39, Tryz.ntmps39
  go_wp2_with (go_at_call 64; refine (spec_inr _ _ _ _).mono ?_; rintro e w' ⟨rfl, rfl⟩)
  go_ret
  exact .mk rfl
set_option maxHeartbeats 4000000 in
theorem specD_msgok {us : List Value} {x : Ms} {w : World} (h : Rds w (dtMs x) us) (hf : msSz x ≤ 1048576) : Calls Tryz.prog 16 #[.agg us.toArray] w (RetV (.bool (msgOk x)) w) := by
  unfold dtMs at h
  obtain ⟨us, rfl, hg1⟩ := h.num
  clear h
  obtain ⟨us, rfl, hg2⟩ := hg1.num
  clear hg1
  obtain ⟨uf, us, rfl, hf2, hg3⟩ := hg2.split
  clear hg2
  obtain ⟨A0, n0, c0, rfl⟩ := shp_lab hf2
  have H2 := Lib.hid hf2
  clear hf2
  obtain ⟨A1, n1, c1, A2, n2, c2, A3, n3, c3, A4, n4, c4, rfl⟩ := shp_tm hg3
  have H3 := Lib.hid hg3
  clear hg3
  simp only [List.cons_append, List.nil_append]
  unfold msSz at hf
  have S2 : x.eff.parts.length ≤ 1048576 := by omega
  have S3 : tmSz x.terms ≤ 1048576 := by omega
  cases e0 : inR x.frm 0 3
  · skip
    have HR : Hid (msgOk x = false) := Lib.hid (by simp [msgOk, e0])
    go_enter Tryz.func16, Tryz.ntmps16
    go_wp2_with fail
    generalize hW : w.alloc (.cells #[.int .i64 x.frm, .int .i64 x.value, .int .i64 x.eff.base, .slice A0 n0 c0, .int .i64 x.terms.taint.base, .slice A1 n1 c1, .int .i64 x.terms.clear.base, .slice A2 n2 c2, .int .i64 x.terms.raise.base, .slice A3 n3 c3, .int .i64 x.terms.verify.base, .slice A4 n4 c4] 35) = x0
    obtain ⟨pb, hsz, bel⟩ := laid1 (ps := [.int .i64 x.frm, .int .i64 x.value, .int .i64 x.eff.base, .slice A0 n0 c0, .int .i64 x.terms.taint.base, .slice A1 n1 c1, .int .i64 x.terms.clear.base, .slice A2 n2 c2, .int .i64 x.terms.raise.base, .slice A3 n3 c3, .int .i64 x.terms.verify.base, .slice A4 n4 c4]) hW
    have PB := Lib.hid pb
    clear hW pb hsz
    refine (spec_who x.frm _).mono ?_
    rintro e y0 ⟨rfl, rfl⟩
    go_wp2
    go_ret
    exact .mk (by rw [HR.out]; rfl) bel
  cases e1 : inR x.value 0 999999
  · skip
    have HR : Hid (msgOk x = false) := Lib.hid (by simp [msgOk, e0, e1])
    go_enter Tryz.func16, Tryz.ntmps16
    go_wp2_with fail
    generalize hW : w.alloc (.cells #[.int .i64 x.frm, .int .i64 x.value, .int .i64 x.eff.base, .slice A0 n0 c0, .int .i64 x.terms.taint.base, .slice A1 n1 c1, .int .i64 x.terms.clear.base, .slice A2 n2 c2, .int .i64 x.terms.raise.base, .slice A3 n3 c3, .int .i64 x.terms.verify.base, .slice A4 n4 c4] 35) = x0
    obtain ⟨pb, hsz, bel⟩ := laid1 (ps := [.int .i64 x.frm, .int .i64 x.value, .int .i64 x.eff.base, .slice A0 n0 c0, .int .i64 x.terms.taint.base, .slice A1 n1 c1, .int .i64 x.terms.clear.base, .slice A2 n2 c2, .int .i64 x.terms.raise.base, .slice A3 n3 c3, .int .i64 x.terms.verify.base, .slice A4 n4 c4]) hW
    have PB := Lib.hid pb
    clear hW pb hsz
    refine (spec_who x.frm _).mono ?_
    rintro e y0 ⟨rfl, rfl⟩
    have pc1 := PB.out.cell 1 rfl
    go_wp2_with fail
    refine (spec_value x.value _).mono ?_
    rintro e y1 ⟨rfl, rfl⟩
    clear pc1
    go_wp2
    go_ret
    exact .mk (by rw [HR.out]; rfl) bel
  cases e2 : labOk x.eff
  · skip
    have HR : Hid (msgOk x = false) := Lib.hid (by simp [msgOk, e0, e1, e2])
    go_enter Tryz.func16, Tryz.ntmps16
    go_wp2_with fail
    generalize hW : w.alloc (.cells #[.int .i64 x.frm, .int .i64 x.value, .int .i64 x.eff.base, .slice A0 n0 c0, .int .i64 x.terms.taint.base, .slice A1 n1 c1, .int .i64 x.terms.clear.base, .slice A2 n2 c2, .int .i64 x.terms.raise.base, .slice A3 n3 c3, .int .i64 x.terms.verify.base, .slice A4 n4 c4] 35) = x0
    obtain ⟨pb, hsz, bel⟩ := laid1 (ps := [.int .i64 x.frm, .int .i64 x.value, .int .i64 x.eff.base, .slice A0 n0 c0, .int .i64 x.terms.taint.base, .slice A1 n1 c1, .int .i64 x.terms.clear.base, .slice A2 n2 c2, .int .i64 x.terms.raise.base, .slice A3 n3 c3, .int .i64 x.terms.verify.base, .slice A4 n4 c4]) hW
    have PB := Lib.hid pb
    clear hW pb hsz
    refine (spec_who x.frm _).mono ?_
    rintro e y0 ⟨rfl, rfl⟩
    have pc1 := PB.out.cell 1 rfl
    go_wp2_with fail
    refine (spec_value x.value _).mono ?_
    rintro e y1 ⟨rfl, rfl⟩
    clear pc1
    have pc2 := PB.out.cell 2 rfl
    have pc3 := PB.out.cell 3 rfl
    go_wp2_with fail
    refine (specD_labok (H2.out.below bel) S2).mono ?_
    rintro e y2 ⟨rfl, hb⟩
    have PB' := Lib.hid (PB.out.below hb)
    have bel' := below_more bel hb
    clear PB bel hb
    have PB := PB'
    have bel := bel'
    clear PB' bel'
    clear pc2 pc3
    go_wp2
    go_ret
    exact .mk (by rw [HR.out]; rfl) bel
  cases e3 : termsOk x.terms
  · skip
    have HR : Hid (msgOk x = false) := Lib.hid (by simp [msgOk, e0, e1, e2, e3])
    go_enter Tryz.func16, Tryz.ntmps16
    go_wp2_with fail
    generalize hW : w.alloc (.cells #[.int .i64 x.frm, .int .i64 x.value, .int .i64 x.eff.base, .slice A0 n0 c0, .int .i64 x.terms.taint.base, .slice A1 n1 c1, .int .i64 x.terms.clear.base, .slice A2 n2 c2, .int .i64 x.terms.raise.base, .slice A3 n3 c3, .int .i64 x.terms.verify.base, .slice A4 n4 c4] 35) = x0
    obtain ⟨pb, hsz, bel⟩ := laid1 (ps := [.int .i64 x.frm, .int .i64 x.value, .int .i64 x.eff.base, .slice A0 n0 c0, .int .i64 x.terms.taint.base, .slice A1 n1 c1, .int .i64 x.terms.clear.base, .slice A2 n2 c2, .int .i64 x.terms.raise.base, .slice A3 n3 c3, .int .i64 x.terms.verify.base, .slice A4 n4 c4]) hW
    have PB := Lib.hid pb
    clear hW pb hsz
    refine (spec_who x.frm _).mono ?_
    rintro e y0 ⟨rfl, rfl⟩
    have pc1 := PB.out.cell 1 rfl
    go_wp2_with fail
    refine (spec_value x.value _).mono ?_
    rintro e y1 ⟨rfl, rfl⟩
    clear pc1
    have pc2 := PB.out.cell 2 rfl
    have pc3 := PB.out.cell 3 rfl
    go_wp2_with fail
    refine (specD_labok (H2.out.below bel) S2).mono ?_
    rintro e y2 ⟨rfl, hb⟩
    have PB' := Lib.hid (PB.out.below hb)
    have bel' := below_more bel hb
    clear PB bel hb
    have PB := PB'
    have bel := bel'
    clear PB' bel'
    clear pc2 pc3
    have pc4 := PB.out.cell 4 rfl
    have pc5 := PB.out.cell 5 rfl
    have pc6 := PB.out.cell 6 rfl
    have pc7 := PB.out.cell 7 rfl
    have pc8 := PB.out.cell 8 rfl
    have pc9 := PB.out.cell 9 rfl
    have pc10 := PB.out.cell 10 rfl
    have pc11 := PB.out.cell 11 rfl
    go_wp2_with fail
    refine (specD_termsok (H3.out.below bel) S3).mono ?_
    rintro e y3 ⟨rfl, hb⟩
    have PB' := Lib.hid (PB.out.below hb)
    have bel' := below_more bel hb
    clear PB bel hb
    have PB := PB'
    have bel := bel'
    clear PB' bel'
    clear pc4 pc5 pc6 pc7 pc8 pc9 pc10 pc11
    go_wp2
    go_ret
    exact .mk (by rw [HR.out]; rfl) bel
  have HR : Hid (msgOk x = true) := Lib.hid (by simp [msgOk, e0, e1, e2, e3])
  go_enter Tryz.func16, Tryz.ntmps16
  go_wp2_with fail
  generalize hW : w.alloc (.cells #[.int .i64 x.frm, .int .i64 x.value, .int .i64 x.eff.base, .slice A0 n0 c0, .int .i64 x.terms.taint.base, .slice A1 n1 c1, .int .i64 x.terms.clear.base, .slice A2 n2 c2, .int .i64 x.terms.raise.base, .slice A3 n3 c3, .int .i64 x.terms.verify.base, .slice A4 n4 c4] 35) = x0
  obtain ⟨pb, hsz, bel⟩ := laid1 (ps := [.int .i64 x.frm, .int .i64 x.value, .int .i64 x.eff.base, .slice A0 n0 c0, .int .i64 x.terms.taint.base, .slice A1 n1 c1, .int .i64 x.terms.clear.base, .slice A2 n2 c2, .int .i64 x.terms.raise.base, .slice A3 n3 c3, .int .i64 x.terms.verify.base, .slice A4 n4 c4]) hW
  have PB := Lib.hid pb
  clear hW pb hsz
  refine (spec_who x.frm _).mono ?_
  rintro e y0 ⟨rfl, rfl⟩
  have pc1 := PB.out.cell 1 rfl
  go_wp2_with fail
  refine (spec_value x.value _).mono ?_
  rintro e y1 ⟨rfl, rfl⟩
  clear pc1
  have pc2 := PB.out.cell 2 rfl
  have pc3 := PB.out.cell 3 rfl
  go_wp2_with fail
  refine (specD_labok (H2.out.below bel) S2).mono ?_
  rintro e y2 ⟨rfl, hb⟩
  have PB' := Lib.hid (PB.out.below hb)
  have bel' := below_more bel hb
  clear PB bel hb
  have PB := PB'
  have bel := bel'
  clear PB' bel'
  clear pc2 pc3
  have pc4 := PB.out.cell 4 rfl
  have pc5 := PB.out.cell 5 rfl
  have pc6 := PB.out.cell 6 rfl
  have pc7 := PB.out.cell 7 rfl
  have pc8 := PB.out.cell 8 rfl
  have pc9 := PB.out.cell 9 rfl
  have pc10 := PB.out.cell 10 rfl
  have pc11 := PB.out.cell 11 rfl
  go_wp2_with fail
  refine (specD_termsok (H3.out.below bel) S3).mono ?_
  rintro e y3 ⟨rfl, hb⟩
  have PB' := Lib.hid (PB.out.below hb)
  have bel' := below_more bel hb
  clear PB bel hb
  have PB := PB'
  have bel := bel'
  clear PB' bel'
  clear pc4 pc5 pc6 pc7 pc8 pc9 pc10 pc11
  go_wp2
  go_ret
  exact .mk (by rw [HR.out]; rfl) bel
set_option maxHeartbeats 4000000 in
theorem specD_share {A : Option Addr} {n c : Nat} {t : TypeId} {xs : List Ms} {w : World} (g : Int) (h : Rd w (.row 12 t (xs.flatMap dtMs)) (.slice A n c)) (hl : n ≤ 1048576) : Calls Tryz.prog 33 #[.slice A n c, .int .i64 g] w (RetS (.int .i64 (share xs g)) w) := by
  obtain ⟨HN, -, -⟩ := h.len dtMs_len (by omega)
  have HNX := Lib.hid HN
  have HR := Lib.hid h
  clear HN h
  go_enter Tryz.func33, Tryz.ntmps33
  go_wp2
  go_loop [5, 6] (fun s i => ∃ k : Nat, k ≤ n ∧ i = .int .i64 k ∧ s = .int .i64 (share (xs.take k) g)) (fun _ i => n - (intOf i).toNat)
  case atStart => exact ⟨0, by omega, rfl, rfl⟩
  case round =>
    obtain ⟨k, hk, rfl, rfl⟩ := hrel
    by_cases hlt : k < n
    · obtain ⟨x, hx⟩ : ∃ x, xs[k]? = some x := ⟨xs[k]'(by have := HNX.out; omega), List.getElem?_eq_getElem _⟩
      obtain ⟨b, o, A0, n0, c0, A1, n1, c1, A2, n2, c2, A3, n3, c3, A4, n4, c4, rfl, cx0, -⟩ := at_mss HR.out hx
      have hs := share_le (xs.take k) g
      have hs2 : (xs.take k).length ≤ k := List.length_take_le _ _
      have hs3 := share_pos (xs.take k) g
      by_cases he : x.frm = g
      · have HS := Lib.hid (share_yes hx he)
        have hd : (x.frm == g) = true := by simpa using he
        clear hx he
        go_wp2
        go_round
        case rel => exact ⟨k + 1, by omega, by go_num, by rw [HS.out]⟩
        case measure => simp [intOf]; omega
      · have HS := Lib.hid (share_no hx he)
        have hd : (x.frm == g) = false := by simpa using he
        clear hx he
        go_wp2
        go_round
        case rel => exact ⟨k + 1, by omega, by go_num, by rw [HS.out]⟩
        case measure => simp [intOf]; omega
    · obtain rfl : k = n := by omega
      have HE : Hid (share (xs.take k) g = share xs g) := Lib.hid (by rw [List.take_of_length_le (by have := HNX.out; omega)])
      go_wp2
      go_ret
      exact .mk (by rw [← HE.out]; rfl)
end Go.Proofs.YtnpeojlhjbdjiaaGreatDoor

/-
  Chapter 7 of the model: DoorOk.
-/
namespace Go.Proofs.YtnpeojlhjbdjiaaGreatDoor
set_option maxRecDepth 100000
open Go.RowKit


theorem doorOk_m {x : Door} (h : makerOf x.handle < 0) : doorOk x = false := by
  have : ¬ 0 ≤ makerOf x.handle := by omega
  simp [doorOk, this]
theorem doorOk_l {x : Door} (h : labOk x.label = false) : doorOk x = false := by simp [doorOk, h]
theorem doorOk_n {x : Door} (h : 12 < x.queue.length) : doorOk x = false := by
  have : ¬ x.queue.length ≤ 12 := by omega
  simp [doorOk, this]
theorem doorOk_e {x : Door} {k : Nat} {m : Ms} (hx : x.queue[k]? = some m) (h : eachOk x.queue m = false) : doorOk x = false := by
  have : x.queue.all (eachOk x.queue) = false := by rw [List.all_eq_false]; exact ⟨m, List.mem_of_getElem? hx, by simp [h]⟩
  simp [doorOk, this]
theorem doorOk_yes {x : Door} (h1 : ¬ makerOf x.handle < 0) (h2 : labOk x.label = true) (h3 : x.queue.length ≤ 12) (h4 : x.queue.all (eachOk x.queue) = true) : doorOk x = true := by
  have : 0 ≤ makerOf x.handle := by omega
  simp [doorOk, this, h2, h3, h4]
theorem all_take {q : List Ms} {p : Ms → Bool} {k : Nat} {m : Ms} (h : (q.take k).all p = true) (hx : q[k]? = some m) (hm : p m = true) : (q.take (k + 1)).all p = true := by rw [take_at hx, List.all_append, h]; simp [hm]
set_option maxHeartbeats 8000000 in
theorem specD_doorok {us : List Value} {x : Door} {w : World} (h : Rds w (dtDoor x) us) (hf : doorSz x ≤ 1048576) : Calls Tryz.prog 11 #[.agg us.toArray] w (RetV (.bool (doorOk x)) w) := by
  unfold dtDoor at h
  obtain ⟨us, rfl, hg1⟩ := h.num
  clear h
  obtain ⟨uf, us, rfl, hf1, hg2⟩ := hg1.split
  clear hg1
  obtain ⟨A0, n0, c0, rfl⟩ := shp_lab hf1
  have H1 := Lib.hid hf1
  clear hf1
  obtain ⟨A1, n1, c1, rfl⟩ := shp_row hg2
  have H2 := Lib.hid hg2
  clear hg2
  simp only [List.cons_append, List.nil_append]
  have hqr := rds1 H2.out
  obtain ⟨HN, -, -⟩ := hqr.len dtMs_len (by omega)
  have HNX := Lib.hid HN
  have HQ := Lib.hid hqr
  have hfs := hf
  unfold doorSz mssSz at hf
  have S1 : x.label.parts.length ≤ 1048576 := by omega
  have hnl : n1 ≤ 1048576 := by omega
  have HSZ := Lib.hid hf
  clear HN hqr hf hfs
  by_cases e0 : makerOf x.handle < 0
  · have HR := Lib.hid (doorOk_m e0)
    go_enter Tryz.func11, Tryz.ntmps11
    go_wp2_with fail
    generalize hW : w.alloc (.cells #[.int .i64 x.handle, .int .i64 x.label.base, .slice A0 n0 c0, .slice A1 n1 c1] 29) = x0
    obtain ⟨pb, hsz, bel⟩ := laid1 (ps := [.int .i64 x.handle, .int .i64 x.label.base, .slice A0 n0 c0, .slice A1 n1 c1]) hW
    have PB := Lib.hid pb
    clear hW pb hsz
    have hcl := PB.out.lt
    refine (spec_makerof x.handle _).mono ?_
    rintro e y0 ⟨rfl, rfl⟩
    go_wp2
    go_ret
    exact .mk (by rw [HR.out]; rfl) bel
  cases e1 : labOk x.label
  · have HR := Lib.hid (doorOk_l e1)
    go_enter Tryz.func11, Tryz.ntmps11
    go_wp2_with fail
    generalize hW : w.alloc (.cells #[.int .i64 x.handle, .int .i64 x.label.base, .slice A0 n0 c0, .slice A1 n1 c1] 29) = x0
    obtain ⟨pb, hsz, bel⟩ := laid1 (ps := [.int .i64 x.handle, .int .i64 x.label.base, .slice A0 n0 c0, .slice A1 n1 c1]) hW
    have PB := Lib.hid pb
    clear hW pb hsz
    have hcl := PB.out.lt
    refine (spec_makerof x.handle _).mono ?_
    rintro e y0 ⟨rfl, rfl⟩
    have pc1 := PB.out.cell 1 rfl
    have pc2 := PB.out.cell 2 rfl
    go_wp2_with fail
    refine (specD_labok (H1.out.below bel) S1).mono ?_
    rintro e y1 ⟨rfl, hb⟩
    have PB' := Lib.hid (PB.out.below hb)
    have bel' := below_more bel hb
    clear PB bel hb pc1 pc2 hcl
    have PB := PB'
    have bel := bel'
    clear PB' bel'
    go_wp2
    go_ret
    exact .mk (by rw [HR.out]; rfl) bel
  by_cases e2 : 12 < n1
  · have HR := Lib.hid (doorOk_n (x := x) (by have := HNX.out; omega))
    have e2' : (12 : Int) < (n1 : Int) := by omega
    go_enter Tryz.func11, Tryz.ntmps11
    go_wp2_with fail
    generalize hW : w.alloc (.cells #[.int .i64 x.handle, .int .i64 x.label.base, .slice A0 n0 c0, .slice A1 n1 c1] 29) = x0
    obtain ⟨pb, hsz, bel⟩ := laid1 (ps := [.int .i64 x.handle, .int .i64 x.label.base, .slice A0 n0 c0, .slice A1 n1 c1]) hW
    have PB := Lib.hid pb
    clear hW pb hsz
    have hcl := PB.out.lt
    refine (spec_makerof x.handle _).mono ?_
    rintro e y0 ⟨rfl, rfl⟩
    have pc1 := PB.out.cell 1 rfl
    have pc2 := PB.out.cell 2 rfl
    go_wp2_with fail
    refine (specD_labok (H1.out.below bel) S1).mono ?_
    rintro e y1 ⟨rfl, hb⟩
    have PB' := Lib.hid (PB.out.below hb)
    have bel' := below_more bel hb
    clear PB bel hb pc1 pc2 hcl
    have PB := PB'
    have bel := bel'
    clear PB' bel'
    have pc3 := PB.out.cell 3 rfl
    go_wp2
    go_ret
    exact .mk (by rw [HR.out]; rfl) bel
  have e2' : ¬ (12 : Int) < (n1 : Int) := by omega
  go_enter Tryz.func11, Tryz.ntmps11
  go_wp2_with fail
  generalize hW : w.alloc (.cells #[.int .i64 x.handle, .int .i64 x.label.base, .slice A0 n0 c0, .slice A1 n1 c1] 29) = x0
  obtain ⟨pb, hsz, bel⟩ := laid1 (ps := [.int .i64 x.handle, .int .i64 x.label.base, .slice A0 n0 c0, .slice A1 n1 c1]) hW
  have PB := Lib.hid pb
  clear hW pb hsz
  have hcl := PB.out.lt
  refine (spec_makerof x.handle _).mono ?_
  rintro e y0 ⟨rfl, rfl⟩
  have pc1 := PB.out.cell 1 rfl
  have pc2 := PB.out.cell 2 rfl
  go_wp2_with fail
  refine (specD_labok (H1.out.below bel) S1).mono ?_
  rintro e y1 ⟨rfl, hb⟩
  have PB' := Lib.hid (PB.out.below hb)
  have bel' := below_more bel hb
  clear PB bel hb pc1 pc2 hcl
  have PB := PB'
  have bel := bel'
  clear PB' bel'
  have pc3 := PB.out.cell 3 rfl
  have PB0 := PB
  have HBE := Lib.hid bel
  clear PB bel
  go_wp2
  go_loopw [3] (fun i wr => ∃ k : Nat, k ≤ n1 ∧ i = .int .i64 k ∧ Hid ((x.queue.take k).all (eachOk x.queue) = true) ∧ Hid (Box wr w.heap.size [.int .i64 x.handle, .int .i64 x.label.base, .slice A0 n0 c0, .slice A1 n1 c1]) ∧ Hid (Below w.heap.size w wr)) (fun i _ => n1 - (intOf i).toNat)
  case atStart => exact ⟨0, by omega, rfl, Lib.hid (by simp), PB0, HBE⟩
  case round =>
    clear PB0 HBE
    obtain ⟨k, hk, rfl, HS, PB, HB⟩ := hrel
    have bel := HB.out
    clear HB
    by_cases hlt : k < n1
    · obtain ⟨m, hm⟩ : ∃ m, x.queue[k]? = some m := ⟨x.queue[k]'(by have := HNX.out; omega), List.getElem?_eq_getElem _⟩
      obtain ⟨b, o, B0, m0, d0, B1, m1, d1, B2, m2, d2, B3, m3, d3, B4, m4, d4, rfl, cx0, cx1, cx2, cx3, cx4, cx5, cx6, cx7, cx8, cx9, cx10, cx11, hr⟩ := at_mss (HQ.out.below bel) hm
      have FM : msSz m ≤ 1048576 := by have := mssSum_at hm; have := HSZ.out; omega
      have HE := Lib.hid hr
      have HM := Lib.hid hm
      have pc3 := PB.out.cell 3 rfl
      clear hr hm
      cases e3 : msgOk m
      · have HR := Lib.hid (doorOk_e HM.out (by simp [eachOk, e3]))
        have pc0 := PB.out.cell 0 rfl
        have pc1 := PB.out.cell 1 rfl
        have pc2 := PB.out.cell 2 rfl
        have pc3 := PB.out.cell 3 rfl
        go_wp2
        refine wp_region_late 19 (fun w' => w'.cell? ⟨w.heap.size, 0, none⟩ = some (.int .i64 x.handle) ∧ w'.cell? ⟨w.heap.size, 1, none⟩ = some (.int .i64 x.label.base) ∧ w'.cell? ⟨w.heap.size, 2, none⟩ = some (.slice A0 n0 c0) ∧ w'.cell? ⟨w.heap.size, 3, none⟩ = some (.slice (some ⟨b, o, none⟩) n1 c1) ∧ w'.cell? ⟨b, o + k * 12, none⟩ = some (.int .i64 m.frm) ∧ w'.cell? ⟨b, o + k * 12 + 1, none⟩ = some (.int .i64 m.value) ∧ w'.cell? ⟨b, o + k * 12 + 2, none⟩ = some (.int .i64 m.eff.base) ∧ w'.cell? ⟨b, o + k * 12 + 3, none⟩ = some (.slice B0 m0 d0) ∧ w'.cell? ⟨b, o + k * 12 + 4, none⟩ = some (.int .i64 m.terms.taint.base) ∧ w'.cell? ⟨b, o + k * 12 + 5, none⟩ = some (.slice B1 m1 d1) ∧ w'.cell? ⟨b, o + k * 12 + 6, none⟩ = some (.int .i64 m.terms.clear.base) ∧ w'.cell? ⟨b, o + k * 12 + 7, none⟩ = some (.slice B2 m2 d2) ∧ w'.cell? ⟨b, o + k * 12 + 8, none⟩ = some (.int .i64 m.terms.raise.base) ∧ w'.cell? ⟨b, o + k * 12 + 9, none⟩ = some (.slice B3 m3 d3) ∧ w'.cell? ⟨b, o + k * 12 + 10, none⟩ = some (.int .i64 m.terms.verify.base) ∧ w'.cell? ⟨b, o + k * 12 + 11, none⟩ = some (.slice B4 m4 d4)) (by kernel_rfl) ?_
        obtain ⟨wx, hwx⟩ : ∃ wx, wx = wr.drew := ⟨_, rfl⟩
        have HC : Hid (Below wr.heap.size wr wx) := Lib.hid (by rw [hwx]; exact (Below.refl _ _).drew)
        rw [← hwx]
        clear hwx
        refine WpLate.take2 (i := 0) (v := .pointer (some ⟨w.heap.size, 3, none⟩)) rfl rfl (by kernel_rfl) (by kernel_rfl) (by kernel_rfl) (by kernel_rfl) (by kernel_rfl) (fun _ _ _ h => h) (Or.inl ⟨by rfl, fun w' hw => ?_⟩) ⟨(PB.out.below HC.out).cell 0 rfl, (PB.out.below HC.out).cell 1 rfl, (PB.out.below HC.out).cell 2 rfl, (PB.out.below HC.out).cell 3 rfl, (HC.out.cell (block_lt_of_cell cx0)).trans cx0, (HC.out.cell (block_lt_of_cell cx1)).trans cx1, (HC.out.cell (block_lt_of_cell cx2)).trans cx2, (HC.out.cell (block_lt_of_cell cx3)).trans cx3, (HC.out.cell (block_lt_of_cell cx4)).trans cx4, (HC.out.cell (block_lt_of_cell cx5)).trans cx5, (HC.out.cell (block_lt_of_cell cx6)).trans cx6, (HC.out.cell (block_lt_of_cell cx7)).trans cx7, (HC.out.cell (block_lt_of_cell cx8)).trans cx8, (HC.out.cell (block_lt_of_cell cx9)).trans cx9, (HC.out.cell (block_lt_of_cell cx10)).trans cx10, (HC.out.cell (block_lt_of_cell cx11)).trans cx11⟩ ?_
        · go_simp
        try simp only [List.setIfInBounds_toArray]
        try simp only [List.set_cons_succ, List.set_cons_zero]
        refine WpLate.take2 (i := 1) (v := .slice (some ⟨b, o, none⟩) n1 c1) rfl rfl (by kernel_rfl) (by kernel_rfl) (by kernel_rfl) (by kernel_rfl) (by kernel_rfl) (fun _ _ _ h => h) (Or.inl ⟨by rfl, fun w' hw => ?_⟩) ⟨(PB.out.below HC.out).cell 0 rfl, (PB.out.below HC.out).cell 1 rfl, (PB.out.below HC.out).cell 2 rfl, (PB.out.below HC.out).cell 3 rfl, (HC.out.cell (block_lt_of_cell cx0)).trans cx0, (HC.out.cell (block_lt_of_cell cx1)).trans cx1, (HC.out.cell (block_lt_of_cell cx2)).trans cx2, (HC.out.cell (block_lt_of_cell cx3)).trans cx3, (HC.out.cell (block_lt_of_cell cx4)).trans cx4, (HC.out.cell (block_lt_of_cell cx5)).trans cx5, (HC.out.cell (block_lt_of_cell cx6)).trans cx6, (HC.out.cell (block_lt_of_cell cx7)).trans cx7, (HC.out.cell (block_lt_of_cell cx8)).trans cx8, (HC.out.cell (block_lt_of_cell cx9)).trans cx9, (HC.out.cell (block_lt_of_cell cx10)).trans cx10, (HC.out.cell (block_lt_of_cell cx11)).trans cx11⟩ ?_
        · obtain ⟨hw0, hw1, hw2, hw3, hw4, hw5, hw6, hw7, hw8, hw9, hw10, hw11, hw12, hw13, hw14, hw15⟩ := hw; go_simp
        try simp only [List.setIfInBounds_toArray]
        try simp only [List.set_cons_succ, List.set_cons_zero]
        refine WpLate.take2 (i := 2) (v := .int .i64 k) rfl rfl (by kernel_rfl) (by kernel_rfl) (by kernel_rfl) (by kernel_rfl) (by kernel_rfl) (fun _ _ _ h => h) (Or.inl ⟨by rfl, fun w' hw => ?_⟩) ⟨(PB.out.below HC.out).cell 0 rfl, (PB.out.below HC.out).cell 1 rfl, (PB.out.below HC.out).cell 2 rfl, (PB.out.below HC.out).cell 3 rfl, (HC.out.cell (block_lt_of_cell cx0)).trans cx0, (HC.out.cell (block_lt_of_cell cx1)).trans cx1, (HC.out.cell (block_lt_of_cell cx2)).trans cx2, (HC.out.cell (block_lt_of_cell cx3)).trans cx3, (HC.out.cell (block_lt_of_cell cx4)).trans cx4, (HC.out.cell (block_lt_of_cell cx5)).trans cx5, (HC.out.cell (block_lt_of_cell cx6)).trans cx6, (HC.out.cell (block_lt_of_cell cx7)).trans cx7, (HC.out.cell (block_lt_of_cell cx8)).trans cx8, (HC.out.cell (block_lt_of_cell cx9)).trans cx9, (HC.out.cell (block_lt_of_cell cx10)).trans cx10, (HC.out.cell (block_lt_of_cell cx11)).trans cx11⟩ ?_
        · go_simp
        try simp only [List.setIfInBounds_toArray]
        try simp only [List.set_cons_succ, List.set_cons_zero]
        refine WpLate.take2 (i := 3) (v := .pointer (some ⟨b, o + k * 12, none⟩)) rfl rfl (by kernel_rfl) (by kernel_rfl) (by kernel_rfl) (by kernel_rfl) (by kernel_rfl) (fun _ _ _ h => h) (Or.inl ⟨by rfl, fun w' hw => ?_⟩) ⟨(PB.out.below HC.out).cell 0 rfl, (PB.out.below HC.out).cell 1 rfl, (PB.out.below HC.out).cell 2 rfl, (PB.out.below HC.out).cell 3 rfl, (HC.out.cell (block_lt_of_cell cx0)).trans cx0, (HC.out.cell (block_lt_of_cell cx1)).trans cx1, (HC.out.cell (block_lt_of_cell cx2)).trans cx2, (HC.out.cell (block_lt_of_cell cx3)).trans cx3, (HC.out.cell (block_lt_of_cell cx4)).trans cx4, (HC.out.cell (block_lt_of_cell cx5)).trans cx5, (HC.out.cell (block_lt_of_cell cx6)).trans cx6, (HC.out.cell (block_lt_of_cell cx7)).trans cx7, (HC.out.cell (block_lt_of_cell cx8)).trans cx8, (HC.out.cell (block_lt_of_cell cx9)).trans cx9, (HC.out.cell (block_lt_of_cell cx10)).trans cx10, (HC.out.cell (block_lt_of_cell cx11)).trans cx11⟩ ?_
        · go_simp
        try simp only [List.setIfInBounds_toArray]
        try simp only [List.set_cons_succ, List.set_cons_zero]
        refine WpLate.take2 (i := 4) (v := .agg #[.int .i64 m.frm, .int .i64 m.value, .int .i64 m.eff.base, .slice B0 m0 d0, .int .i64 m.terms.taint.base, .slice B1 m1 d1, .int .i64 m.terms.clear.base, .slice B2 m2 d2, .int .i64 m.terms.raise.base, .slice B3 m3 d3, .int .i64 m.terms.verify.base, .slice B4 m4 d4]) rfl rfl (by kernel_rfl) (by kernel_rfl) (by kernel_rfl) (by kernel_rfl) (by kernel_rfl) (fun _ _ _ h => h) (Or.inl ⟨by rfl, fun w' hw => ?_⟩) ⟨(PB.out.below HC.out).cell 0 rfl, (PB.out.below HC.out).cell 1 rfl, (PB.out.below HC.out).cell 2 rfl, (PB.out.below HC.out).cell 3 rfl, (HC.out.cell (block_lt_of_cell cx0)).trans cx0, (HC.out.cell (block_lt_of_cell cx1)).trans cx1, (HC.out.cell (block_lt_of_cell cx2)).trans cx2, (HC.out.cell (block_lt_of_cell cx3)).trans cx3, (HC.out.cell (block_lt_of_cell cx4)).trans cx4, (HC.out.cell (block_lt_of_cell cx5)).trans cx5, (HC.out.cell (block_lt_of_cell cx6)).trans cx6, (HC.out.cell (block_lt_of_cell cx7)).trans cx7, (HC.out.cell (block_lt_of_cell cx8)).trans cx8, (HC.out.cell (block_lt_of_cell cx9)).trans cx9, (HC.out.cell (block_lt_of_cell cx10)).trans cx10, (HC.out.cell (block_lt_of_cell cx11)).trans cx11⟩ ?_
        · obtain ⟨hw0, hw1, hw2, hw3, hw4, hw5, hw6, hw7, hw8, hw9, hw10, hw11, hw12, hw13, hw14, hw15⟩ := hw; go_simp
        try simp only [List.setIfInBounds_toArray]
        try simp only [List.set_cons_succ, List.set_cons_zero]
        refine WpLate.each (rs := [5]) (by kernel_rfl) (by simp) (LateEach.cons rfl (fun K hK => ?_) LateEach.nil)
        go_simp
        refine (specD_msgok (HE.out.below HC.out) FM).mono ?_
        rintro e wl5 ⟨rfl, hb⟩
        have HC' := Lib.hid (below_more HC.out hb)
        clear HC hb
        have HC := HC'
        clear HC'
        rw [e3]
        try dsimp only
        refine hK.out _ _ (fun _ => ⟨(PB.out.below HC.out).cell 0 rfl, (PB.out.below HC.out).cell 1 rfl, (PB.out.below HC.out).cell 2 rfl, (PB.out.below HC.out).cell 3 rfl, (HC.out.cell (block_lt_of_cell cx0)).trans cx0, (HC.out.cell (block_lt_of_cell cx1)).trans cx1, (HC.out.cell (block_lt_of_cell cx2)).trans cx2, (HC.out.cell (block_lt_of_cell cx3)).trans cx3, (HC.out.cell (block_lt_of_cell cx4)).trans cx4, (HC.out.cell (block_lt_of_cell cx5)).trans cx5, (HC.out.cell (block_lt_of_cell cx6)).trans cx6, (HC.out.cell (block_lt_of_cell cx7)).trans cx7, (HC.out.cell (block_lt_of_cell cx8)).trans cx8, (HC.out.cell (block_lt_of_cell cx9)).trans cx9, (HC.out.cell (block_lt_of_cell cx10)).trans cx10, (HC.out.cell (block_lt_of_cell cx11)).trans cx11⟩) ?_
        try simp only [Act.put]
        try simp only [List.setIfInBounds_toArray]
        try simp only [List.set_cons_succ, List.set_cons_zero]
        refine WpLate.take2 (i := 6) (v := .bool true) rfl rfl (by kernel_rfl) (by kernel_rfl) (by kernel_rfl) (by kernel_rfl) (by kernel_rfl) (fun _ _ _ h => h) (Or.inl ⟨by rfl, fun w' hw => ?_⟩) ⟨(PB.out.below HC.out).cell 0 rfl, (PB.out.below HC.out).cell 1 rfl, (PB.out.below HC.out).cell 2 rfl, (PB.out.below HC.out).cell 3 rfl, (HC.out.cell (block_lt_of_cell cx0)).trans cx0, (HC.out.cell (block_lt_of_cell cx1)).trans cx1, (HC.out.cell (block_lt_of_cell cx2)).trans cx2, (HC.out.cell (block_lt_of_cell cx3)).trans cx3, (HC.out.cell (block_lt_of_cell cx4)).trans cx4, (HC.out.cell (block_lt_of_cell cx5)).trans cx5, (HC.out.cell (block_lt_of_cell cx6)).trans cx6, (HC.out.cell (block_lt_of_cell cx7)).trans cx7, (HC.out.cell (block_lt_of_cell cx8)).trans cx8, (HC.out.cell (block_lt_of_cell cx9)).trans cx9, (HC.out.cell (block_lt_of_cell cx10)).trans cx10, (HC.out.cell (block_lt_of_cell cx11)).trans cx11⟩ ?_
        · go_simp
        try simp only [List.setIfInBounds_toArray]
        try simp only [List.set_cons_succ, List.set_cons_zero]
        refine WpLate.take2 (i := 7) (v := .bool true) rfl rfl (by kernel_rfl) (by kernel_rfl) (by kernel_rfl) (by kernel_rfl) (by kernel_rfl) (fun _ _ _ h => h) (Or.inl ⟨by rfl, fun w' hw => ?_⟩) ⟨(PB.out.below HC.out).cell 0 rfl, (PB.out.below HC.out).cell 1 rfl, (PB.out.below HC.out).cell 2 rfl, (PB.out.below HC.out).cell 3 rfl, (HC.out.cell (block_lt_of_cell cx0)).trans cx0, (HC.out.cell (block_lt_of_cell cx1)).trans cx1, (HC.out.cell (block_lt_of_cell cx2)).trans cx2, (HC.out.cell (block_lt_of_cell cx3)).trans cx3, (HC.out.cell (block_lt_of_cell cx4)).trans cx4, (HC.out.cell (block_lt_of_cell cx5)).trans cx5, (HC.out.cell (block_lt_of_cell cx6)).trans cx6, (HC.out.cell (block_lt_of_cell cx7)).trans cx7, (HC.out.cell (block_lt_of_cell cx8)).trans cx8, (HC.out.cell (block_lt_of_cell cx9)).trans cx9, (HC.out.cell (block_lt_of_cell cx10)).trans cx10, (HC.out.cell (block_lt_of_cell cx11)).trans cx11⟩ ?_
        · go_simp
        try simp only [List.setIfInBounds_toArray]
        try simp only [List.set_cons_succ, List.set_cons_zero]
        refine WpLate.take2 (i := 8) (v := undef) rfl rfl (by kernel_rfl) (by kernel_rfl) (by kernel_rfl) (by kernel_rfl) (by kernel_rfl) (fun _ _ _ h => h) (yields_skip (j := 7) (s := 34) (b := false) (v := .bool true) (by kernel_rfl) (by kernel_rfl) (by rfl) (by first | (simp; done) | (intro h; cases h))) ⟨(PB.out.below HC.out).cell 0 rfl, (PB.out.below HC.out).cell 1 rfl, (PB.out.below HC.out).cell 2 rfl, (PB.out.below HC.out).cell 3 rfl, (HC.out.cell (block_lt_of_cell cx0)).trans cx0, (HC.out.cell (block_lt_of_cell cx1)).trans cx1, (HC.out.cell (block_lt_of_cell cx2)).trans cx2, (HC.out.cell (block_lt_of_cell cx3)).trans cx3, (HC.out.cell (block_lt_of_cell cx4)).trans cx4, (HC.out.cell (block_lt_of_cell cx5)).trans cx5, (HC.out.cell (block_lt_of_cell cx6)).trans cx6, (HC.out.cell (block_lt_of_cell cx7)).trans cx7, (HC.out.cell (block_lt_of_cell cx8)).trans cx8, (HC.out.cell (block_lt_of_cell cx9)).trans cx9, (HC.out.cell (block_lt_of_cell cx10)).trans cx10, (HC.out.cell (block_lt_of_cell cx11)).trans cx11⟩ ?_
        try simp only [List.setIfInBounds_toArray]
        try simp only [List.set_cons_succ, List.set_cons_zero]
        refine WpLate.take2 (i := 9) (v := undef) rfl rfl (by kernel_rfl) (by kernel_rfl) (by kernel_rfl) (by kernel_rfl) (by kernel_rfl) (fun _ _ _ h => h) (yields_skip (j := 7) (s := 34) (b := false) (v := .bool true) (by kernel_rfl) (by kernel_rfl) (by rfl) (by first | (simp; done) | (intro h; cases h))) ⟨(PB.out.below HC.out).cell 0 rfl, (PB.out.below HC.out).cell 1 rfl, (PB.out.below HC.out).cell 2 rfl, (PB.out.below HC.out).cell 3 rfl, (HC.out.cell (block_lt_of_cell cx0)).trans cx0, (HC.out.cell (block_lt_of_cell cx1)).trans cx1, (HC.out.cell (block_lt_of_cell cx2)).trans cx2, (HC.out.cell (block_lt_of_cell cx3)).trans cx3, (HC.out.cell (block_lt_of_cell cx4)).trans cx4, (HC.out.cell (block_lt_of_cell cx5)).trans cx5, (HC.out.cell (block_lt_of_cell cx6)).trans cx6, (HC.out.cell (block_lt_of_cell cx7)).trans cx7, (HC.out.cell (block_lt_of_cell cx8)).trans cx8, (HC.out.cell (block_lt_of_cell cx9)).trans cx9, (HC.out.cell (block_lt_of_cell cx10)).trans cx10, (HC.out.cell (block_lt_of_cell cx11)).trans cx11⟩ ?_
        try simp only [List.setIfInBounds_toArray]
        try simp only [List.set_cons_succ, List.set_cons_zero]
        refine WpLate.take2 (i := 10) (v := undef) rfl rfl (by kernel_rfl) (by kernel_rfl) (by kernel_rfl) (by kernel_rfl) (by kernel_rfl) (fun _ _ _ h => h) (yields_skip (j := 7) (s := 34) (b := false) (v := .bool true) (by kernel_rfl) (by kernel_rfl) (by rfl) (by first | (simp; done) | (intro h; cases h))) ⟨(PB.out.below HC.out).cell 0 rfl, (PB.out.below HC.out).cell 1 rfl, (PB.out.below HC.out).cell 2 rfl, (PB.out.below HC.out).cell 3 rfl, (HC.out.cell (block_lt_of_cell cx0)).trans cx0, (HC.out.cell (block_lt_of_cell cx1)).trans cx1, (HC.out.cell (block_lt_of_cell cx2)).trans cx2, (HC.out.cell (block_lt_of_cell cx3)).trans cx3, (HC.out.cell (block_lt_of_cell cx4)).trans cx4, (HC.out.cell (block_lt_of_cell cx5)).trans cx5, (HC.out.cell (block_lt_of_cell cx6)).trans cx6, (HC.out.cell (block_lt_of_cell cx7)).trans cx7, (HC.out.cell (block_lt_of_cell cx8)).trans cx8, (HC.out.cell (block_lt_of_cell cx9)).trans cx9, (HC.out.cell (block_lt_of_cell cx10)).trans cx10, (HC.out.cell (block_lt_of_cell cx11)).trans cx11⟩ ?_
        try simp only [List.setIfInBounds_toArray]
        try simp only [List.set_cons_succ, List.set_cons_zero]
        refine WpLate.take2 (i := 11) (v := undef) rfl rfl (by kernel_rfl) (by kernel_rfl) (by kernel_rfl) (by kernel_rfl) (by kernel_rfl) (fun _ _ _ h => h) (yields_skip (j := 7) (s := 34) (b := false) (v := .bool true) (by kernel_rfl) (by kernel_rfl) (by rfl) (by first | (simp; done) | (intro h; cases h))) ⟨(PB.out.below HC.out).cell 0 rfl, (PB.out.below HC.out).cell 1 rfl, (PB.out.below HC.out).cell 2 rfl, (PB.out.below HC.out).cell 3 rfl, (HC.out.cell (block_lt_of_cell cx0)).trans cx0, (HC.out.cell (block_lt_of_cell cx1)).trans cx1, (HC.out.cell (block_lt_of_cell cx2)).trans cx2, (HC.out.cell (block_lt_of_cell cx3)).trans cx3, (HC.out.cell (block_lt_of_cell cx4)).trans cx4, (HC.out.cell (block_lt_of_cell cx5)).trans cx5, (HC.out.cell (block_lt_of_cell cx6)).trans cx6, (HC.out.cell (block_lt_of_cell cx7)).trans cx7, (HC.out.cell (block_lt_of_cell cx8)).trans cx8, (HC.out.cell (block_lt_of_cell cx9)).trans cx9, (HC.out.cell (block_lt_of_cell cx10)).trans cx10, (HC.out.cell (block_lt_of_cell cx11)).trans cx11⟩ ?_
        try simp only [List.setIfInBounds_toArray]
        try simp only [List.set_cons_succ, List.set_cons_zero]
        refine WpLate.take2 (i := 12) (v := undef) rfl rfl (by kernel_rfl) (by kernel_rfl) (by kernel_rfl) (by kernel_rfl) (by kernel_rfl) (fun _ _ _ h => h) (yields_skip (j := 7) (s := 34) (b := false) (v := .bool true) (by kernel_rfl) (by kernel_rfl) (by rfl) (by first | (simp; done) | (intro h; cases h))) ⟨(PB.out.below HC.out).cell 0 rfl, (PB.out.below HC.out).cell 1 rfl, (PB.out.below HC.out).cell 2 rfl, (PB.out.below HC.out).cell 3 rfl, (HC.out.cell (block_lt_of_cell cx0)).trans cx0, (HC.out.cell (block_lt_of_cell cx1)).trans cx1, (HC.out.cell (block_lt_of_cell cx2)).trans cx2, (HC.out.cell (block_lt_of_cell cx3)).trans cx3, (HC.out.cell (block_lt_of_cell cx4)).trans cx4, (HC.out.cell (block_lt_of_cell cx5)).trans cx5, (HC.out.cell (block_lt_of_cell cx6)).trans cx6, (HC.out.cell (block_lt_of_cell cx7)).trans cx7, (HC.out.cell (block_lt_of_cell cx8)).trans cx8, (HC.out.cell (block_lt_of_cell cx9)).trans cx9, (HC.out.cell (block_lt_of_cell cx10)).trans cx10, (HC.out.cell (block_lt_of_cell cx11)).trans cx11⟩ ?_
        try simp only [List.setIfInBounds_toArray]
        try simp only [List.set_cons_succ, List.set_cons_zero]
        refine WpLate.take2 (i := 13) (v := undef) rfl rfl (by kernel_rfl) (by kernel_rfl) (by kernel_rfl) (by kernel_rfl) (by kernel_rfl) (fun _ _ _ h => h) (yields_skip (j := 7) (s := 34) (b := false) (v := .bool true) (by kernel_rfl) (by kernel_rfl) (by rfl) (by first | (simp; done) | (intro h; cases h))) ⟨(PB.out.below HC.out).cell 0 rfl, (PB.out.below HC.out).cell 1 rfl, (PB.out.below HC.out).cell 2 rfl, (PB.out.below HC.out).cell 3 rfl, (HC.out.cell (block_lt_of_cell cx0)).trans cx0, (HC.out.cell (block_lt_of_cell cx1)).trans cx1, (HC.out.cell (block_lt_of_cell cx2)).trans cx2, (HC.out.cell (block_lt_of_cell cx3)).trans cx3, (HC.out.cell (block_lt_of_cell cx4)).trans cx4, (HC.out.cell (block_lt_of_cell cx5)).trans cx5, (HC.out.cell (block_lt_of_cell cx6)).trans cx6, (HC.out.cell (block_lt_of_cell cx7)).trans cx7, (HC.out.cell (block_lt_of_cell cx8)).trans cx8, (HC.out.cell (block_lt_of_cell cx9)).trans cx9, (HC.out.cell (block_lt_of_cell cx10)).trans cx10, (HC.out.cell (block_lt_of_cell cx11)).trans cx11⟩ ?_
        try simp only [List.setIfInBounds_toArray]
        try simp only [List.set_cons_succ, List.set_cons_zero]
        refine WpLate.take2 (i := 14) (v := undef) rfl rfl (by kernel_rfl) (by kernel_rfl) (by kernel_rfl) (by kernel_rfl) (by kernel_rfl) (fun _ _ _ h => h) (yields_skip (j := 7) (s := 34) (b := false) (v := .bool true) (by kernel_rfl) (by kernel_rfl) (by rfl) (by first | (simp; done) | (intro h; cases h))) ⟨(PB.out.below HC.out).cell 0 rfl, (PB.out.below HC.out).cell 1 rfl, (PB.out.below HC.out).cell 2 rfl, (PB.out.below HC.out).cell 3 rfl, (HC.out.cell (block_lt_of_cell cx0)).trans cx0, (HC.out.cell (block_lt_of_cell cx1)).trans cx1, (HC.out.cell (block_lt_of_cell cx2)).trans cx2, (HC.out.cell (block_lt_of_cell cx3)).trans cx3, (HC.out.cell (block_lt_of_cell cx4)).trans cx4, (HC.out.cell (block_lt_of_cell cx5)).trans cx5, (HC.out.cell (block_lt_of_cell cx6)).trans cx6, (HC.out.cell (block_lt_of_cell cx7)).trans cx7, (HC.out.cell (block_lt_of_cell cx8)).trans cx8, (HC.out.cell (block_lt_of_cell cx9)).trans cx9, (HC.out.cell (block_lt_of_cell cx10)).trans cx10, (HC.out.cell (block_lt_of_cell cx11)).trans cx11⟩ ?_
        try simp only [List.setIfInBounds_toArray]
        try simp only [List.set_cons_succ, List.set_cons_zero]
        refine WpLate.take2 (i := 15) (v := undef) rfl rfl (by kernel_rfl) (by kernel_rfl) (by kernel_rfl) (by kernel_rfl) (by kernel_rfl) (fun _ _ _ h => h) (yields_skip (j := 7) (s := 34) (b := false) (v := .bool true) (by kernel_rfl) (by kernel_rfl) (by rfl) (by first | (simp; done) | (intro h; cases h))) ⟨(PB.out.below HC.out).cell 0 rfl, (PB.out.below HC.out).cell 1 rfl, (PB.out.below HC.out).cell 2 rfl, (PB.out.below HC.out).cell 3 rfl, (HC.out.cell (block_lt_of_cell cx0)).trans cx0, (HC.out.cell (block_lt_of_cell cx1)).trans cx1, (HC.out.cell (block_lt_of_cell cx2)).trans cx2, (HC.out.cell (block_lt_of_cell cx3)).trans cx3, (HC.out.cell (block_lt_of_cell cx4)).trans cx4, (HC.out.cell (block_lt_of_cell cx5)).trans cx5, (HC.out.cell (block_lt_of_cell cx6)).trans cx6, (HC.out.cell (block_lt_of_cell cx7)).trans cx7, (HC.out.cell (block_lt_of_cell cx8)).trans cx8, (HC.out.cell (block_lt_of_cell cx9)).trans cx9, (HC.out.cell (block_lt_of_cell cx10)).trans cx10, (HC.out.cell (block_lt_of_cell cx11)).trans cx11⟩ ?_
        try simp only [List.setIfInBounds_toArray]
        try simp only [List.set_cons_succ, List.set_cons_zero]
        refine WpLate.take2 (i := 16) (v := undef) rfl rfl (by kernel_rfl) (by kernel_rfl) (by kernel_rfl) (by kernel_rfl) (by kernel_rfl) (fun _ _ _ h => h) (yields_skip (j := 7) (s := 34) (b := false) (v := .bool true) (by kernel_rfl) (by kernel_rfl) (by rfl) (by first | (simp; done) | (intro h; cases h))) ⟨(PB.out.below HC.out).cell 0 rfl, (PB.out.below HC.out).cell 1 rfl, (PB.out.below HC.out).cell 2 rfl, (PB.out.below HC.out).cell 3 rfl, (HC.out.cell (block_lt_of_cell cx0)).trans cx0, (HC.out.cell (block_lt_of_cell cx1)).trans cx1, (HC.out.cell (block_lt_of_cell cx2)).trans cx2, (HC.out.cell (block_lt_of_cell cx3)).trans cx3, (HC.out.cell (block_lt_of_cell cx4)).trans cx4, (HC.out.cell (block_lt_of_cell cx5)).trans cx5, (HC.out.cell (block_lt_of_cell cx6)).trans cx6, (HC.out.cell (block_lt_of_cell cx7)).trans cx7, (HC.out.cell (block_lt_of_cell cx8)).trans cx8, (HC.out.cell (block_lt_of_cell cx9)).trans cx9, (HC.out.cell (block_lt_of_cell cx10)).trans cx10, (HC.out.cell (block_lt_of_cell cx11)).trans cx11⟩ ?_
        try simp only [List.setIfInBounds_toArray]
        try simp only [List.set_cons_succ, List.set_cons_zero]
        refine WpLate.take2 (i := 17) (v := undef) rfl rfl (by kernel_rfl) (by kernel_rfl) (by kernel_rfl) (by kernel_rfl) (by kernel_rfl) (fun _ _ _ h => h) (yields_skip (j := 7) (s := 34) (b := false) (v := .bool true) (by kernel_rfl) (by kernel_rfl) (by rfl) (by first | (simp; done) | (intro h; cases h))) ⟨(PB.out.below HC.out).cell 0 rfl, (PB.out.below HC.out).cell 1 rfl, (PB.out.below HC.out).cell 2 rfl, (PB.out.below HC.out).cell 3 rfl, (HC.out.cell (block_lt_of_cell cx0)).trans cx0, (HC.out.cell (block_lt_of_cell cx1)).trans cx1, (HC.out.cell (block_lt_of_cell cx2)).trans cx2, (HC.out.cell (block_lt_of_cell cx3)).trans cx3, (HC.out.cell (block_lt_of_cell cx4)).trans cx4, (HC.out.cell (block_lt_of_cell cx5)).trans cx5, (HC.out.cell (block_lt_of_cell cx6)).trans cx6, (HC.out.cell (block_lt_of_cell cx7)).trans cx7, (HC.out.cell (block_lt_of_cell cx8)).trans cx8, (HC.out.cell (block_lt_of_cell cx9)).trans cx9, (HC.out.cell (block_lt_of_cell cx10)).trans cx10, (HC.out.cell (block_lt_of_cell cx11)).trans cx11⟩ ?_
        try simp only [List.setIfInBounds_toArray]
        try simp only [List.set_cons_succ, List.set_cons_zero]
        refine WpLate.take2 (i := 18) (v := .bool true) rfl rfl (by kernel_rfl) (by kernel_rfl) (by kernel_rfl) (by kernel_rfl) (by kernel_rfl) (fun _ _ _ h => h) (Or.inl ⟨by rfl, fun w' hw => ?_⟩) ⟨(PB.out.below HC.out).cell 0 rfl, (PB.out.below HC.out).cell 1 rfl, (PB.out.below HC.out).cell 2 rfl, (PB.out.below HC.out).cell 3 rfl, (HC.out.cell (block_lt_of_cell cx0)).trans cx0, (HC.out.cell (block_lt_of_cell cx1)).trans cx1, (HC.out.cell (block_lt_of_cell cx2)).trans cx2, (HC.out.cell (block_lt_of_cell cx3)).trans cx3, (HC.out.cell (block_lt_of_cell cx4)).trans cx4, (HC.out.cell (block_lt_of_cell cx5)).trans cx5, (HC.out.cell (block_lt_of_cell cx6)).trans cx6, (HC.out.cell (block_lt_of_cell cx7)).trans cx7, (HC.out.cell (block_lt_of_cell cx8)).trans cx8, (HC.out.cell (block_lt_of_cell cx9)).trans cx9, (HC.out.cell (block_lt_of_cell cx10)).trans cx10, (HC.out.cell (block_lt_of_cell cx11)).trans cx11⟩ ?_
        · go_simp
        try simp only [List.setIfInBounds_toArray]
        try simp only [List.set_cons_succ, List.set_cons_zero]
        refine WpLate.done (by kernel_rfl) ?_ _
        go_wp2
        go_ret
        exact .mk (by rw [HR.out]; rfl) (below_more bel HC.out)
      · by_cases e4 : 3 < share x.queue m.frm
        · have HR := Lib.hid (doorOk_e HM.out (by have : ¬ share x.queue m.frm ≤ 3 := by omega
                                                  simp [eachOk, this]))
          have HC := Lib.hid (Below.refl wr.heap.size wr)
          have pc0 := PB.out.cell 0 rfl
          have pc1 := PB.out.cell 1 rfl
          have pc2 := PB.out.cell 2 rfl
          have pc3 := PB.out.cell 3 rfl
          go_wp2
          go_region_held3 (fun w' => w'.cell? ⟨w.heap.size, 0, none⟩ = some (.int .i64 x.handle) ∧ w'.cell? ⟨w.heap.size, 1, none⟩ = some (.int .i64 x.label.base) ∧ w'.cell? ⟨w.heap.size, 2, none⟩ = some (.slice A0 n0 c0) ∧ w'.cell? ⟨w.heap.size, 3, none⟩ = some (.slice (some ⟨b, o, none⟩) n1 c1) ∧ w'.cell? ⟨b, o + k * 12, none⟩ = some (.int .i64 m.frm) ∧ w'.cell? ⟨b, o + k * 12 + 1, none⟩ = some (.int .i64 m.value) ∧ w'.cell? ⟨b, o + k * 12 + 2, none⟩ = some (.int .i64 m.eff.base) ∧ w'.cell? ⟨b, o + k * 12 + 3, none⟩ = some (.slice B0 m0 d0) ∧ w'.cell? ⟨b, o + k * 12 + 4, none⟩ = some (.int .i64 m.terms.taint.base) ∧ w'.cell? ⟨b, o + k * 12 + 5, none⟩ = some (.slice B1 m1 d1) ∧ w'.cell? ⟨b, o + k * 12 + 6, none⟩ = some (.int .i64 m.terms.clear.base) ∧ w'.cell? ⟨b, o + k * 12 + 7, none⟩ = some (.slice B2 m2 d2) ∧ w'.cell? ⟨b, o + k * 12 + 8, none⟩ = some (.int .i64 m.terms.raise.base) ∧ w'.cell? ⟨b, o + k * 12 + 9, none⟩ = some (.slice B3 m3 d3) ∧ w'.cell? ⟨b, o + k * 12 + 10, none⟩ = some (.int .i64 m.terms.verify.base) ∧ w'.cell? ⟨b, o + k * 12 + 11, none⟩ = some (.slice B4 m4 d4))
            (first | exact ⟨fb0, fb1, fb2, fb3, fe0, fe1, fe2, fe3, fe4, fe5, fe6, fe7, fe8, fe9, fe10, fe11⟩ | go_keep)
            (first
            | (go_at_call 16
               refine (specD_msgok (by first | exact HE.out.below HC.out | exact (HE.out.below HC.out).below (Below.refl _ _).drew) FM).mono ?_
               rintro e wn ⟨rfl, hb⟩
               have HC' : Hid (Below wr.heap.size wr wn) := Lib.hid (by first | exact below_more HC.out hb | exact below_more HC.out (below_undrew hb))
               clear HC
               have HC := HC'
               clear HC'
               have fb0 : wn.cell? ⟨w.heap.size, 0, none⟩ = some (.int .i64 x.handle) := (PB.out.below HC.out).cell 0 rfl
               have fb1 : wn.cell? ⟨w.heap.size, 1, none⟩ = some (.int .i64 x.label.base) := (PB.out.below HC.out).cell 1 rfl
               have fb2 : wn.cell? ⟨w.heap.size, 2, none⟩ = some (.slice A0 n0 c0) := (PB.out.below HC.out).cell 2 rfl
               have fb3 : wn.cell? ⟨w.heap.size, 3, none⟩ = some (.slice (some ⟨b, o, none⟩) n1 c1) := (PB.out.below HC.out).cell 3 rfl
               have fe0 : wn.cell? ⟨b, o + k * 12, none⟩ = some (.int .i64 m.frm) := (HC.out.cell (block_lt_of_cell cx0)).trans cx0
               have fe1 : wn.cell? ⟨b, o + k * 12 + 1, none⟩ = some (.int .i64 m.value) := (HC.out.cell (block_lt_of_cell cx1)).trans cx1
               have fe2 : wn.cell? ⟨b, o + k * 12 + 2, none⟩ = some (.int .i64 m.eff.base) := (HC.out.cell (block_lt_of_cell cx2)).trans cx2
               have fe3 : wn.cell? ⟨b, o + k * 12 + 3, none⟩ = some (.slice B0 m0 d0) := (HC.out.cell (block_lt_of_cell cx3)).trans cx3
               have fe4 : wn.cell? ⟨b, o + k * 12 + 4, none⟩ = some (.int .i64 m.terms.taint.base) := (HC.out.cell (block_lt_of_cell cx4)).trans cx4
               have fe5 : wn.cell? ⟨b, o + k * 12 + 5, none⟩ = some (.slice B1 m1 d1) := (HC.out.cell (block_lt_of_cell cx5)).trans cx5
               have fe6 : wn.cell? ⟨b, o + k * 12 + 6, none⟩ = some (.int .i64 m.terms.clear.base) := (HC.out.cell (block_lt_of_cell cx6)).trans cx6
               have fe7 : wn.cell? ⟨b, o + k * 12 + 7, none⟩ = some (.slice B2 m2 d2) := (HC.out.cell (block_lt_of_cell cx7)).trans cx7
               have fe8 : wn.cell? ⟨b, o + k * 12 + 8, none⟩ = some (.int .i64 m.terms.raise.base) := (HC.out.cell (block_lt_of_cell cx8)).trans cx8
               have fe9 : wn.cell? ⟨b, o + k * 12 + 9, none⟩ = some (.slice B3 m3 d3) := (HC.out.cell (block_lt_of_cell cx9)).trans cx9
               have fe10 : wn.cell? ⟨b, o + k * 12 + 10, none⟩ = some (.int .i64 m.terms.verify.base) := (HC.out.cell (block_lt_of_cell cx10)).trans cx10
               have fe11 : wn.cell? ⟨b, o + k * 12 + 11, none⟩ = some (.slice B4 m4 d4) := (HC.out.cell (block_lt_of_cell cx11)).trans cx11
               clear hb)
            | (go_at_call 33
               refine (specD_share m.frm (by first | exact HQ.out.below (below_more bel HC.out) | exact (HQ.out.below (below_more bel HC.out)).below (Below.refl _ _).drew) hnl).mono ?_
               rintro e w' ⟨rfl, rfl⟩))
          obtain ⟨wz, hwz⟩ : ∃ wz, wz = wn := ⟨_, rfl⟩
          rw [← hwz] at HC ⊢
          have PB' := Lib.hid (PB.out.below HC.out)
          have bel' := below_more bel HC.out
          clear hwz PB bel HC fb0 fb1 fb2 fb3 fe0 fe1 fe2 fe3 fe4 fe5 fe6 fe7 fe8 fe9 fe10 fe11 cx0 cx1 cx2 cx3 cx4 cx5 cx6 cx7 cx8 cx9 cx10 cx11 pc0 pc1 pc2 pc3
          have PB := PB'
          have bel := bel'
          clear PB' bel'
          go_wp2
          go_ret
          exact .mk (by rw [HR.out]; rfl) bel
        · have HS1 := Lib.hid (all_take HS.out HM.out (by have : share x.queue m.frm ≤ 3 := by omega
                                                          simp [eachOk, e3, this]))
          have HC := Lib.hid (Below.refl wr.heap.size wr)
          have pc0 := PB.out.cell 0 rfl
          have pc1 := PB.out.cell 1 rfl
          have pc2 := PB.out.cell 2 rfl
          have pc3 := PB.out.cell 3 rfl
          go_wp2
          go_region_held3 (fun w' => w'.cell? ⟨w.heap.size, 0, none⟩ = some (.int .i64 x.handle) ∧ w'.cell? ⟨w.heap.size, 1, none⟩ = some (.int .i64 x.label.base) ∧ w'.cell? ⟨w.heap.size, 2, none⟩ = some (.slice A0 n0 c0) ∧ w'.cell? ⟨w.heap.size, 3, none⟩ = some (.slice (some ⟨b, o, none⟩) n1 c1) ∧ w'.cell? ⟨b, o + k * 12, none⟩ = some (.int .i64 m.frm) ∧ w'.cell? ⟨b, o + k * 12 + 1, none⟩ = some (.int .i64 m.value) ∧ w'.cell? ⟨b, o + k * 12 + 2, none⟩ = some (.int .i64 m.eff.base) ∧ w'.cell? ⟨b, o + k * 12 + 3, none⟩ = some (.slice B0 m0 d0) ∧ w'.cell? ⟨b, o + k * 12 + 4, none⟩ = some (.int .i64 m.terms.taint.base) ∧ w'.cell? ⟨b, o + k * 12 + 5, none⟩ = some (.slice B1 m1 d1) ∧ w'.cell? ⟨b, o + k * 12 + 6, none⟩ = some (.int .i64 m.terms.clear.base) ∧ w'.cell? ⟨b, o + k * 12 + 7, none⟩ = some (.slice B2 m2 d2) ∧ w'.cell? ⟨b, o + k * 12 + 8, none⟩ = some (.int .i64 m.terms.raise.base) ∧ w'.cell? ⟨b, o + k * 12 + 9, none⟩ = some (.slice B3 m3 d3) ∧ w'.cell? ⟨b, o + k * 12 + 10, none⟩ = some (.int .i64 m.terms.verify.base) ∧ w'.cell? ⟨b, o + k * 12 + 11, none⟩ = some (.slice B4 m4 d4))
            (first | exact ⟨fb0, fb1, fb2, fb3, fe0, fe1, fe2, fe3, fe4, fe5, fe6, fe7, fe8, fe9, fe10, fe11⟩ | go_keep)
            (first
            | (go_at_call 16
               refine (specD_msgok (by first | exact HE.out.below HC.out | exact (HE.out.below HC.out).below (Below.refl _ _).drew) FM).mono ?_
               rintro e wn ⟨rfl, hb⟩
               have HC' : Hid (Below wr.heap.size wr wn) := Lib.hid (by first | exact below_more HC.out hb | exact below_more HC.out (below_undrew hb))
               clear HC
               have HC := HC'
               clear HC'
               have fb0 : wn.cell? ⟨w.heap.size, 0, none⟩ = some (.int .i64 x.handle) := (PB.out.below HC.out).cell 0 rfl
               have fb1 : wn.cell? ⟨w.heap.size, 1, none⟩ = some (.int .i64 x.label.base) := (PB.out.below HC.out).cell 1 rfl
               have fb2 : wn.cell? ⟨w.heap.size, 2, none⟩ = some (.slice A0 n0 c0) := (PB.out.below HC.out).cell 2 rfl
               have fb3 : wn.cell? ⟨w.heap.size, 3, none⟩ = some (.slice (some ⟨b, o, none⟩) n1 c1) := (PB.out.below HC.out).cell 3 rfl
               have fe0 : wn.cell? ⟨b, o + k * 12, none⟩ = some (.int .i64 m.frm) := (HC.out.cell (block_lt_of_cell cx0)).trans cx0
               have fe1 : wn.cell? ⟨b, o + k * 12 + 1, none⟩ = some (.int .i64 m.value) := (HC.out.cell (block_lt_of_cell cx1)).trans cx1
               have fe2 : wn.cell? ⟨b, o + k * 12 + 2, none⟩ = some (.int .i64 m.eff.base) := (HC.out.cell (block_lt_of_cell cx2)).trans cx2
               have fe3 : wn.cell? ⟨b, o + k * 12 + 3, none⟩ = some (.slice B0 m0 d0) := (HC.out.cell (block_lt_of_cell cx3)).trans cx3
               have fe4 : wn.cell? ⟨b, o + k * 12 + 4, none⟩ = some (.int .i64 m.terms.taint.base) := (HC.out.cell (block_lt_of_cell cx4)).trans cx4
               have fe5 : wn.cell? ⟨b, o + k * 12 + 5, none⟩ = some (.slice B1 m1 d1) := (HC.out.cell (block_lt_of_cell cx5)).trans cx5
               have fe6 : wn.cell? ⟨b, o + k * 12 + 6, none⟩ = some (.int .i64 m.terms.clear.base) := (HC.out.cell (block_lt_of_cell cx6)).trans cx6
               have fe7 : wn.cell? ⟨b, o + k * 12 + 7, none⟩ = some (.slice B2 m2 d2) := (HC.out.cell (block_lt_of_cell cx7)).trans cx7
               have fe8 : wn.cell? ⟨b, o + k * 12 + 8, none⟩ = some (.int .i64 m.terms.raise.base) := (HC.out.cell (block_lt_of_cell cx8)).trans cx8
               have fe9 : wn.cell? ⟨b, o + k * 12 + 9, none⟩ = some (.slice B3 m3 d3) := (HC.out.cell (block_lt_of_cell cx9)).trans cx9
               have fe10 : wn.cell? ⟨b, o + k * 12 + 10, none⟩ = some (.int .i64 m.terms.verify.base) := (HC.out.cell (block_lt_of_cell cx10)).trans cx10
               have fe11 : wn.cell? ⟨b, o + k * 12 + 11, none⟩ = some (.slice B4 m4 d4) := (HC.out.cell (block_lt_of_cell cx11)).trans cx11
               clear hb)
            | (go_at_call 33
               refine (specD_share m.frm (by first | exact HQ.out.below (below_more bel HC.out) | exact (HQ.out.below (below_more bel HC.out)).below (Below.refl _ _).drew) hnl).mono ?_
               rintro e w' ⟨rfl, rfl⟩))
          obtain ⟨wz, hwz⟩ : ∃ wz, wz = wn := ⟨_, rfl⟩
          rw [← hwz] at HC ⊢
          have PB' := Lib.hid (PB.out.below HC.out)
          have bel' := below_more bel HC.out
          clear hwz PB bel HC fb0 fb1 fb2 fb3 fe0 fe1 fe2 fe3 fe4 fe5 fe6 fe7 fe8 fe9 fe10 fe11 cx0 cx1 cx2 cx3 cx4 cx5 cx6 cx7 cx8 cx9 cx10 cx11 pc0 pc1 pc2 pc3
          have PB := PB'
          have bel := bel'
          clear PB' bel'
          have pc3 := PB.out.cell 3 rfl
          go_wp2
          go_roundw
          case rel => exact ⟨k + 1, by omega, by go_num, HS1, PB, Lib.hid bel⟩
          case measure => simp [intOf]; omega
    · obtain rfl : k = n1 := by omega
      have HR : Hid (doorOk x = true) := Lib.hid (doorOk_yes (by omega) e1 (by have := HNX.out; omega) (by have := HS.out; rwa [List.take_of_length_le (by have := HNX.out; omega)] at this))
      have pc3 := PB.out.cell 3 rfl
      go_wp2
      go_ret
      exact .mk (by rw [HR.out]; rfl) bel

end Go.Proofs.YtnpeojlhjbdjiaaGreatDoor
